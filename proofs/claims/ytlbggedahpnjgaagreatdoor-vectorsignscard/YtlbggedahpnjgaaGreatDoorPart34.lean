/- Part 34 of the texts. -/
import Derived.Test.YtlbggedahpnjgaaGreatDoorPart33
import Derived.OwnWalk
import Derived.Deep.RegionHeld3
import Derived.Deep.AppendLies
import Derived.Maps.AppendAt
/- Lists of bits that a call itself makes; the reference's Times and Axpy. -/
namespace Go.Proofs.YtlbggedahpnjgaaGreatDoor
open Go.RowKit
attribute [local go_sem ↓] Go.wp_at_zero Go.wp_at_succ

theorem infoBits : (Tryz.prog.info? 23).map (fun i => (i.zero, i.size, i.bytes)) = some (some (.int .u64 0), 1, 8) := by kernel_rfl

/-- v is a list S of the call's own. -/
def OwnB (base : Nat) (w : World) (v : Value) (S : List Nat) : Prop := w.ownsRow base 23 1 v S.length (S.map bitV) ∧ ∀ x ∈ S, x < 18446744073709551616
theorem OwnB.below {base : Nat} {w w' : World} {v : Value} {S : List Nat} (h : OwnB base w v S) (hb : Below w.heap.size w w') : OwnB base w' v S :=
  ⟨h.1.kept (row := none) ⟨hb.os, hb.tape, hb.output, hb.size, fun k hk _ => hb.block k hk⟩ (by cases hv : v.ownBlock <;> simp), h.2⟩
theorem OwnB.bits {base : Nat} {w : World} {v : Value} {S : List Nat} (h : OwnB base w v S) : ∃ ao cap, v = .slice ao S.length cap ∧ BitsAt w ao cap (S.map (fun x : Nat => (x : Int))) := by
  have hl : (S.map bitV).length = S.length := by simp
  have hf : ∀ x ∈ S.map (fun x : Nat => (x : Int)), 0 ≤ x ∧ x ≤ 18446744073709551615 := by
    intro x hx
    obtain ⟨y, hy, rfl⟩ := List.mem_map.1 hx
    have := h.2 y hy
    omega
  rcases h.1.2 with ⟨hv, h0⟩ | ⟨g, cap, cur, hv, hg, hh, hc, hm, hs, ht⟩
  · have : S = [] := List.length_eq_zero_iff.1 (by omega)
    subst this
    exact ⟨none, 0, hv, ⟨by simp, by simp, .inl rfl⟩⟩
  · refine ⟨some ⟨g, 0, none⟩, cap, hv, ⟨by simp; omega, hf, .inr ⟨g, 0, rfl, (Array.getElem?_eq_some_iff.1 hh).1, fun i hi => ?_⟩⟩⟩
    have hi' : i < S.length := by simpa using hi
    have q : (S.map bitV)[i]? = some (.int .u64 ((S[i] : Nat) : Int)) := by
      rw [List.getElem?_map, List.getElem?_eq_getElem hi']; rfl
    rw [← ht, List.getElem?_take, if_pos (by omega)] at q
    rw [cell_of_row w g _ _ _ _ hh, Nat.zero_add]
    have e : (S.map (fun x : Nat => (x : Int)))[i]?.getD 0 = ((S[i] : Nat) : Int) := by simp [hi']
    rw [e]
    simpa using q
theorem OwnB.nil (w : World) (base : Nat) (h : base ≤ w.heap.size) : OwnB base (w.alloc (.cells #[] 23)) (.slice (some ⟨w.heap.size, 0, none⟩) 0 0) [] :=
  ⟨World.ownsRow_made w #[] 0 h (by simp [maxLen]) (by simp), by simp⟩
theorem OwnB.snoc {base : Nat} {w : World} {v : Value} {S : List Nat} {x n : Nat} (hn : n = S.length) (h : w.ownsRow base 23 1 v (n + 1) (S.map bitV ++ [.int .u64 (x : Int)])) (hS : ∀ x ∈ S, x < 18446744073709551616) (hx : x < 18446744073709551616) : OwnB base w v (S ++ [x]) := by
  subst hn
  refine ⟨by simpa [bitV] using h, fun y hy => ?_⟩
  rcases List.mem_append.1 hy with h1 | h1
  · exact hS y h1
  · simp at h1; subst h1; exact hx

/-- The first k places of what f makes. -/
def fsL (f : Nat → Nat) (k : Nat) : List Nat := (List.range k).map f
theorem fsL_len (f : Nat → Nat) (k : Nat) : (fsL f k).length = k := by simp [fsL]
theorem fsL_succ (f : Nat → Nat) (k : Nat) : fsL f (k + 1) = fsL f k ++ [f k] := by simp [fsL, List.range_succ]
theorem fsL_mk (f : Nat → Nat) (n : Nat) : (fsL f n).map (fun x : Nat => (x : Int)) = mkL n f := rfl

set_option maxRecDepth 20000 in
set_option maxHeartbeats 4000000 in
theorem r9times_any (a : Nat) (ao : Option Addr) (c : Nat) (I : List Int) (w : World) (ha : a < 18446744073709551616) (hI : BitsAt w ao c I) (hn : I.length ≤ 64) :
    Calls Tryz.prog 13 #[.int .u64 a, .slice ao I.length c] w fun e w' => ∃ bo d, e = .returned (.slice bo I.length d) ∧ BitsAt w' bo d (tmL a I) ∧ Below w.heap.size w w' := by
  obtain ⟨i0, hi, hz0, hz1, hz2⟩ := info_parts infoBits
  have HI := hide hI
  have HF : Hid (tmL a I = (fsL (fun k => mV a (atB I k)) I.length).map (fun x : Nat => (x : Int))) := rfl
  rw [HF.out]
  obtain ⟨n, hnn⟩ : ∃ n, I.length = n := ⟨_, rfl⟩
  rw [hnn] at hn ⊢
  have HN := hide hnn
  have O0 := hide (OwnB.nil w w.heap.size (Nat.le_refl _))
  clear hI hnn HF
  go_enter Tryz.func13, Tryz.ntmps13
  go_wp2_with fail
  go_loopw [5, 6] (fun v i wr => ∃ k : Nat, k ≤ n ∧ i = .int .i64 k ∧ Hid (OwnB w.heap.size wr v (fsL (fun k => mV a (atB I k)) k)) ∧ Hid (Below w.heap.size w wr)) (fun _ i _ => n - (intOf i).toNat)
  case atStart => exact ⟨0, Nat.zero_le _, rfl, O0, below_alloc9 _ _⟩
  case round =>
    clear O0
    obtain ⟨k, hk, rfl, hO, hB⟩ := hrel
    by_cases hlt : k < n
    · have hkI : (k : Int) < (n : Int) := by omega
      obtain ⟨b, off, hao, hb, hc⟩ := ((unhide HI).below hB.out).ne (by rw [unhide HN]; omega)
      have hck := hc k (by rw [unhide HN]; exact hlt)
      have C1 := hide (fun w' => r9mul_any a (atB I k) w' ha ((unhide HI).lt k))
      have SN := hide (fun (w' : World) (v' : Value) (h : w'.ownsRow w.heap.size 23 1 v' (k + 1) ((fsL (fun k => mV a (atB I k)) k).map bitV ++ [.int .u64 (mV a (atB I k) : Int)])) => (show OwnB w.heap.size w' v' (fsL (fun k => mV a (atB I k)) (k + 1)) by
        rw [fsL_succ]
        exact OwnB.snoc (by rw [fsL_len]) h (unhide hO).2 (mV_lt _ _)))
      have OW := hide (show wr.ownsRow w.heap.size 23 1 _ k ((fsL (fun k => mV a (atB I k)) k).map bitV) by have := (unhide hO).1; rwa [fsL_len] at this)
      subst hao
      clear hc hO
      generalize (fsL (fun k => mV a (atB I k)) k).map bitV = S1 at *
      generalize mV a (atB I k) = o at *
      generalize atB I k = x at *
      go_wp2_with fail
      refine (unhide C1 _).mono ?_
      rintro e w2 ⟨rfl, hb2⟩
      have B2 := hB.out.trans (hb2.mono hB.out.size)
      have hsz := B2.size
      have own2 := (unhide OW).kept (row := none) ⟨hb2.os, hb2.tape, hb2.output, hb2.size, fun k hk _ => hb2.block k hk⟩ (by first | (cases hv : Value.ownBlock _ <;> simp) | simp)
      clear hb2 C1 OW hB
      go_wp2_with (at_builtin; refine wpList_append_own _ rfl _ _ 24 rfl w.heap.size 23 i0 (.int .u64 0) 1 8 Tryz.underlying24 hi hz0 hz1 hz2 rfl (by decide) _ _ _ rfl (own2.alloc _) ⟨w2.heap.size, 0, none⟩ 1 1 [.int .u64 (o : Int)] rfl rfl (cell_one_new _ _ _) (fun u hu => by simp at hu; subst hu; rfl) (by unfold maxLen; omega) (by omega) (by simp; omega) ?_; intro v' w3 hown' hgrow _; have hbl : Hid (Below w.heap.size w w3) := hide ((B2.alloc hsz _).grown hgrow (by simp; omega) (fun g hg => (own2.lt g hg).1)); have ho2 := hide (unhide SN _ _ hown'); clear hown' hgrow)
      go_roundw
      case rel => exact ⟨k + 1, by omega, by go_num, ho2, hbl⟩
      case measure => simp [intOf]; omega
    · have hkk : k = n := by omega
      subst hkk
      obtain ⟨b1, d1, e1, q1⟩ := (unhide hO).bits
      rw [fsL_len] at e1
      subst e1
      have Q1 := hide q1
      clear q1 hO
      go_wp2_with fail
      go_ret
      exact ⟨b1, d1, rfl, unhide Q1, hB.out⟩

set_option maxRecDepth 20000 in
set_option maxHeartbeats 8000000 in
theorem r9axpy_any (a : Nat) (ao : Option Addr) (c : Nat) (I : List Int) (bo : Option Addr) (d : Nat) (J : List Int) (w : World) (ha : a < 18446744073709551616) (hI : BitsAt w ao c I) (hJ : BitsAt w bo d J) (hl : I.length = J.length) (hn : I.length ≤ 64) :
    Calls Tryz.prog 12 #[.int .u64 a, .slice ao I.length c, .slice bo J.length d] w fun e w' => ∃ co f, e = .returned (.slice co I.length f) ∧ BitsAt w' co f (axL a I J) ∧ Below w.heap.size w w' := by
  obtain ⟨i0, hi, hz0, hz1, hz2⟩ := info_parts infoBits
  have HI := hide hI; have HJ := hide hJ
  have HF : Hid (axL a I J = (fsL (fun k => aV (atB J k) (mV a (atB I k))) I.length).map (fun x : Nat => (x : Int))) := rfl
  rw [HF.out]
  obtain ⟨n, hnn⟩ : ∃ n, I.length = n := ⟨_, rfl⟩
  rw [← hl, hnn]
  rw [hnn] at hn hl
  have HN := hide hnn; have HM := hide hl.symm
  have O0 := hide (OwnB.nil w w.heap.size (Nat.le_refl _))
  clear hI hJ hnn HF hl
  go_enter Tryz.func12, Tryz.ntmps12
  go_wp2_with fail
  go_loopw [7, 8] (fun v i wr => ∃ k : Nat, k ≤ n ∧ i = .int .i64 k ∧ Hid (OwnB w.heap.size wr v (fsL (fun k => aV (atB J k) (mV a (atB I k))) k)) ∧ Hid (Below w.heap.size w wr)) (fun _ i _ => n - (intOf i).toNat)
  case atStart => exact ⟨0, Nat.zero_le _, rfl, O0, below_alloc9 _ _⟩
  case round =>
    clear O0
    obtain ⟨k, hk, rfl, hO, hB⟩ := hrel
    by_cases hlt : k < n
    · have hkI : (k : Int) < (n : Int) := by omega
      obtain ⟨b1, o1, hao, hb1, hc1⟩ := ((unhide HI).below hB.out).ne (by rw [unhide HN]; omega)
      obtain ⟨b2, o2, hbo, hb2, hc2⟩ := ((unhide HJ).below hB.out).ne (by rw [unhide HM]; omega)
      have cx := hc1 k (by rw [unhide HN]; exact hlt)
      have cy := hc2 k (by rw [unhide HM]; exact hlt)
      have C1 := hide (fun w' => r9mul_any a (atB I k) w' ha ((unhide HI).lt k))
      have C2 := hide (fun w' => r9add_any (atB J k) (mV a (atB I k)) w' ((unhide HJ).lt k) (mV_lt _ _))
      have SN := hide (fun (w' : World) (v' : Value) (h : w'.ownsRow w.heap.size 23 1 v' (k + 1) ((fsL (fun k => aV (atB J k) (mV a (atB I k))) k).map bitV ++ [.int .u64 (aV (atB J k) (mV a (atB I k)) : Int)])) => (show OwnB w.heap.size w' v' (fsL (fun k => aV (atB J k) (mV a (atB I k))) (k + 1)) by
        rw [fsL_succ]
        exact OwnB.snoc (by rw [fsL_len]) h (unhide hO).2 (aV_lt _ _ ((unhide HJ).lt k) (mV_lt _ _))))
      have OW := hide (show wr.ownsRow w.heap.size 23 1 _ k ((fsL (fun k => aV (atB J k) (mV a (atB I k))) k).map bitV) by have := (unhide hO).1; rwa [fsL_len] at this)
      subst hao
      subst hbo
      clear hc1 hc2 hO
      generalize (fsL (fun k => aV (atB J k) (mV a (atB I k))) k).map bitV = S1 at *
      generalize aV (atB J k) (mV a (atB I k)) = o at *
      generalize mV a (atB I k) = p at *
      generalize atB I k = x at *
      generalize atB J k = y at *
      have CX := hide cx; have CY := hide cy
      have KP := hide (fun (w' : World) (h : Below wr.heap.size wr w') => (unhide OW).kept (w' := w') (row := none) ⟨h.os, h.tape, h.output, h.size, fun k hk _ => h.block k hk⟩ (by first | (cases hv : Value.ownBlock _ <;> simp) | simp))
      go_wp2_with fail
      go_region_law (first | (refine step_append_lies _ (by rfl) _ _ _ (by rfl) w.heap.size 23 i0 (.int .u64 0) 1 8 Tryz.underlying24 hi hz0 hz1 hz2 rfl (by omega) _ k S1 (by rfl) (own5.alloc _) ⟨w5.heap.size, 0, none⟩ 1 1 [.int .u64 (o : Int)] (by rfl) rfl (cell_one_new _ _ _) (fun u hu => by simp at hu; subst hu; rfl) (by omega) (by unfold maxLen; omega) (by omega) (by simp; omega) _ rfl ?_; intro g cp w6 hown6 hgrow hat hlt6; have hbl : Hid (Below w.heap.size w w6) := hide ((b5.alloc b5.size _).grown hgrow (by simp; have := b5.size; omega) (fun g hg => (own5.lt g hg).1)); have ho2 := hide (unhide SN _ _ hown6); clear hown6 hgrow hat) | (go_simp; go_at_call 42; refine (unhide C1 _).mono ?_; rintro e w4 ⟨rfl, hb4⟩; have b4 : Below wr.heap.size wr w4 := ((Below.refl wr.heap.size wr).drew).trans hb4; have B4 := hide b4; clear cx cy; have cy := cell_keep (unhide CY) b4; clear b4 hb4) | (go_simp; go_at_call 41; refine (unhide C2 _).mono ?_; rintro e w5 ⟨rfl, hb5⟩; have c5 : Below wr.heap.size wr w5 := (unhide B4).trans (hb5.mono (unhide B4).size); have own5 := unhide KP _ c5; have b5 : Below w.heap.size w w5 := hB.out.trans (c5.mono hB.out.size); have s5 := b5.size; clear cy hb5 c5))
      all_goals
        go_wp2_with fail
        go_roundw
        case rel => exact ⟨k + 1, by omega, by go_num, ho2, hbl⟩
        case measure => simp [intOf]; omega
    · have hkk : k = n := by omega
      subst hkk
      obtain ⟨b1, d1, e1, q1⟩ := (unhide hO).bits
      rw [fsL_len] at e1
      subst e1
      have Q1 := hide q1
      clear q1 hO
      go_wp2_with fail
      go_ret
      exact ⟨b1, d1, rfl, unhide Q1, hB.out⟩

end Go.Proofs.YtlbggedahpnjgaaGreatDoor

/- One number more onto a list of the call's own. -/
namespace Go.Proofs.YtlbggedahpnjgaaGreatDoor
open Go.RowKit

/-- An append whose run is known. -/
theorem wpList_append_ran {P : Program} (w : World) {ops : Array Oper} {rest : List Oper} {o : Oper} {a : Act} {Q : Exit → Act → World → Prop} (hgd : o.guard = none) (s x : Operand) (t : TypeId)
    (ho : o.op = .call { callee := .builtin .append, args := #[s, x], argTypes := #[t, t] }) (v1 v2 v' : Value) (w' : World) (hs : a.eval s = v1) (hx : a.eval x = v2)
    (hr : (Builtin.append_ #[t, t] o.type #[v1, v2]).run P w = .ok v' w') (h : wpList P ops Q rest (a.put o.dst v') w') : wpList P ops Q (o :: rest) a w :=
  wpList_plain hgd fun _ hK => by
    unfold Oper.wp execOp
    simp only [ho, resolve, invoke, builtin, Sem.run_bind, Sem.run_pure, Result.andThen_ok, List.map_toArray, List.map_cons, List.map_nil, hs, hx, hr]
    exact hK _ _ h

/-- Two lists of one's own lie apart. -/
def Apart (v u : Value) : Prop := ∀ g, v.ownBlock = some g → u.ownBlock ≠ some g
theorem Apart.symm {v u : Value} (h : Apart v u) : Apart u v := fun g h1 h2 => h g h2 h1

/-- The number x behind a list of one's own: what append does. -/
theorem OwnB.push {base : Nat} {w : World} {v : Value} {S : List Nat} (h : OwnB base w v S) (x : Nat) (hx : x < 18446744073709551616) (hl : S.length ≤ 1000000) (hb : base ≤ w.heap.size) (ty : TypeId) :
    ∃ v' w', (Builtin.append_ #[24, 24] ty #[v, .slice (some ⟨w.heap.size, 0, none⟩) 1 1]).run Tryz.prog (w.alloc (.cells #[.int .u64 (x : Int)] 23)) = .ok v' w' ∧ OwnB base w' v' (S ++ [x]) ∧ Below base w w' ∧
      (∀ u T, OwnB base w u T → Apart v u → OwnB base w' u T ∧ Apart v' u) ∧ (∀ ao c I, BitsAt w ao c I → (I = [] ∨ ∃ b off, ao = some ⟨b, off, none⟩ ∧ v.ownBlock ≠ some b) → BitsAt w' ao c I) := by
  obtain ⟨i0, hi, hz0, hz1, hz2⟩ := info_parts infoBits
  obtain ⟨v', w', e1, e2, e3, e4, e5⟩ := run_append_own_at (P := Tryz.prog) (w.alloc (.cells #[.int .u64 (x : Int)] 23)) base 24 ty 23 i0 (.int .u64 0) 1 8 Tryz.underlying24 hi hz0 hz1 hz2 rfl (by decide) v S.length (S.map bitV) (h.1.alloc _) ⟨w.heap.size, 0, none⟩ 1 1 [.int .u64 (x : Int)] rfl (cell_one_new _ _ _) (fun u hu => by simp at hu; subst hu; rfl) (by unfold maxLen; omega) (by omega) (by simp; omega)
  have hn : OwnB base w' v' (S ++ [x]) := OwnB.snoc rfl e2 h.2 hx
  refine ⟨v', w', e1, hn, ((below_alloc9 w _).mono hb).grown e3 (by simp; omega) (fun g hg => (h.1.lt g hg).1), ?_, ?_⟩
  · intro u T hu ha
    refine ⟨⟨(hu.1.alloc _).kept e3 ?_, hu.2⟩, ?_⟩
    · cases hv : u.ownBlock with
      | none => exact .inl rfl
      | some g =>
        right
        intro e
        exact ha g e.symm hv
    · intro g hg hg2
      rcases e5 with e5 | e5
      · exact ha g (by rw [← e5]; exact hg) hg2
      · rw [hg] at e5
        have h1 := (hu.1.lt g hg2).2
        simp at e5
        omega
  · intro ao c I hI hn2
    have hA := hI.below (below_alloc9 w (.cells #[.int .u64 (x : Int)] 23))
    refine ⟨hA.1, hA.2.1, ?_⟩
    rcases hA.2.2 with e | ⟨b, off, f1, f2, f3⟩
    · exact .inl e
    rcases hn2 with e | ⟨b', off', g1, g2⟩
    · exact .inl e
    rw [f1] at g1
    simp only [Option.some.injEq, Addr.mk.injEq] at g1
    obtain ⟨rfl, rfl, _⟩ := g1
    refine .inr ⟨b, off, f1, Nat.lt_of_lt_of_le f2 e3.size, fun i hi => ?_⟩
    exact e3.cell (f3 i hi) (fun e => g2 e.symm)

end Go.Proofs.YtlbggedahpnjgaaGreatDoor

/- The reference's Biggest, Finite, Norm, Tame. -/
namespace Go.Proofs.YtlbggedahpnjgaaGreatDoor
open Go.RowKit
attribute [local go_sem ↓] Go.wp_at_zero Go.wp_at_succ

set_option maxRecDepth 20000 in
set_option maxHeartbeats 4000000 in
theorem r9biggest_any (ao : Option Addr) (c : Nat) (I : List Int) (w : World) (hI : BitsAt w ao c I) (hn : I.length ≤ 35184372088830) :
    Calls Tryz.prog 17 #[.slice ao I.length c] w fun e w' => e = .returned (.int .u64 (bgK I I.length : Nat)) ∧ Below w.heap.size w w' := by
  have HI := hide hI
  obtain ⟨n, hnn⟩ : ∃ n, I.length = n := ⟨_, rfl⟩
  rw [hnn] at hn ⊢
  have HN := hide hnn
  clear hI hnn
  go_enter Tryz.func17, Tryz.ntmps17
  go_wp2_with fail
  go_loopw [3, 4] (fun t i wr => ∃ k : Nat, k ≤ n ∧ i = .int .i64 k ∧ t = .int .u64 (bgK I k : Nat) ∧ Hid (Below w.heap.size w wr)) (fun _ i _ => n - (intOf i).toNat)
  case atStart => exact ⟨0, Nat.zero_le _, rfl, rfl, Below.refl _ _⟩
  case round =>
    obtain ⟨k, hk, rfl, rfl, hB⟩ := hrel
    by_cases hlt : k < n
    · have hkI : (k : Int) < (n : Int) := by omega
      obtain ⟨b, off, hao, hb, hc⟩ := ((unhide HI).below hB.out).ne (by rw [unhide HN]; omega)
      have hck := hc k (by rw [unhide HN]; exact hlt)
      have C1 := hide (fun w' => r8abs_any (atB I k) w' ((unhide HI).lt k))
      have C2 := hide (fun w' => r8max_any (bgK I k) (fR (atB I k)) w' (bgK_lt I k) (by have := fR_lt (atB I k); omega))
      have eV : Hid (bgK I (k + 1) = mx (bgK I k) (fR (atB I k))) := rfl
      subst hao
      clear hc
      generalize mx (bgK I k) (fR (atB I k)) = o at *
      generalize fR (atB I k) = r at *
      generalize atB I k = x at *
      generalize bgK I k = tv at *
      go_wp2_with fail
      refine (unhide C1 _).mono ?_
      rintro e w2 ⟨rfl, rfl⟩
      go_wp2_with fail
      refine (unhide C2 _).mono ?_
      rintro e w2 ⟨rfl, hb2⟩
      have B2 : Hid (Below w.heap.size w w2) := hB.out.trans (hb2.mono hB.out.size)
      clear hb2 C1 C2
      go_wp2_with fail
      go_round
      case rel => exact ⟨k + 1, by omega, by go_num, by rw [eV.out], B2⟩
      case measure => simp [intOf]; omega
    · have hkk : k = n := by omega
      subst hkk
      go_wp2_with fail
      exact bodyPost_ret (v := .int .u64 (bgK I k : Nat)) (by simp [results, Tryz.results17, go_sem]) rfl ⟨rfl, hB.out⟩

theorem fnK_down (I : List Int) : ∀ (m k : Nat), k ≤ m → fnK I m = true → fnK I k = true := by
  intro m
  induction m with
  | zero => intro k hk _; rw [show k = 0 by omega]; rfl
  | succ m ih =>
    intro k hk h
    have h' : (fnK I m && fFin (atB I m)) = true := h
    rw [Bool.and_eq_true] at h'
    by_cases e : k = m + 1
    · subst e; exact h
    · exact ih k (by omega) h'.1
theorem fnK_no (I : List Int) (n k : Nat) (hk : k < n) (h : fFin (atB I k) = false) : fnK I n = false := by
  cases e : fnK I n
  · rfl
  · have h2 : (fnK I k && fFin (atB I k)) = true := fnK_down I n (k + 1) (by omega) e
    rw [h, Bool.and_false] at h2
    cases h2

set_option maxRecDepth 20000 in
set_option maxHeartbeats 4000000 in
theorem r9finite_any (ao : Option Addr) (c : Nat) (I : List Int) (w : World) (hI : BitsAt w ao c I) (hn : I.length ≤ 35184372088830) :
    Calls Tryz.prog 19 #[.slice ao I.length c] w fun e w' => e = .returned (.bool (fnK I I.length)) ∧ Below w.heap.size w w' := by
  have HI := hide hI
  obtain ⟨n, hnn⟩ : ∃ n, I.length = n := ⟨_, rfl⟩
  rw [hnn] at hn ⊢
  have HN := hide hnn
  clear hI hnn
  obtain ⟨v, hv⟩ : ∃ v, fnK I n = v := ⟨_, rfl⟩
  rw [hv]
  have HV := hide hv
  clear hv
  go_enter Tryz.func19, Tryz.ntmps19
  go_wp2_with fail
  go_loopw [3] (fun i wr => ∃ k : Nat, k ≤ n ∧ i = .int .i64 k ∧ Hid (fnK I k = true) ∧ Hid (Below w.heap.size w wr)) (fun i _ => n - (intOf i).toNat)
  case atStart => exact ⟨0, Nat.zero_le _, rfl, rfl, Below.refl _ _⟩
  case round =>
    obtain ⟨k, hk, rfl, hq, hB⟩ := hrel
    by_cases hlt : k < n
    · have hkI : (k : Int) < (n : Int) := by omega
      obtain ⟨b, off, hao, hb, hc⟩ := ((unhide HI).below hB.out).ne (by rw [unhide HN]; omega)
      have hck := hc k (by rw [unhide HN]; exact hlt)
      have C1 := hide (fun w' => rfinite_any (atB I k) w' ((unhide HI).lt k))
      have eV : Hid (fnK I (k + 1) = (fnK I k && fFin (atB I k))) := rfl
      have eF := hide (fun h => fnK_no I n k hlt h)
      subst hao
      clear hc
      generalize atB I k = x at *
      cases hf : fFin x
      · have e2 := hide ((unhide HV).symm.trans (unhide eF hf))
        rw [hf] at C1
        have hv2 := unhide e2
        subst hv2
        go_wp2_with fail
        refine (unhide C1 _).mono ?_
        rintro e w2 ⟨rfl, rfl⟩
        clear C1
        go_wp2_with fail
        exact bodyPost_ret (v := .bool false) (by simp [results, Tryz.results19, go_sem]) rfl ⟨rfl, hB.out⟩
      · rw [hf] at C1 eV
        go_wp2_with fail
        refine (unhide C1 _).mono ?_
        rintro e w2 ⟨rfl, rfl⟩
        clear C1
        go_wp2_with fail
        go_round
        case rel => exact ⟨k + 1, by omega, by go_num, by unfold Hid; rw [eV.out, hq.out]; rfl, hB⟩
        case measure => simp [intOf]; omega
    · have hkk : k = n := by omega
      subst hkk
      have e2 := (unhide HV).symm.trans hq.out
      subst e2
      go_wp2_with fail
      exact bodyPost_ret (v := .bool true) (by simp [results, Tryz.results19, go_sem]) rfl ⟨rfl, hB.out⟩

end Go.Proofs.YtlbggedahpnjgaaGreatDoor

/- The reference's Norm. -/
namespace Go.Proofs.YtlbggedahpnjgaaGreatDoor
open Go.RowKit
attribute [local go_sem ↓] Go.wp_at_zero Go.wp_at_succ

set_option maxRecDepth 20000 in
set_option maxHeartbeats 4000000 in
theorem r9norm_odd (ao : Option Addr) (n c m : Nat) (f : Bool) (w : World) (hm : m = 0 ∨ (m ≠ 0 ∧ f = false))
    (C1 : Calls Tryz.prog 17 #[.slice ao n c] w fun e w'' => e = .returned (.int .u64 (m : Nat)) ∧ Below w.heap.size w w'')
    (C2 : ∀ w', Calls Tryz.prog 22 #[.int .u64 m] w' fun e w'' => e = .returned (.bool f) ∧ w' = w'') :
    Calls Tryz.prog 20 #[.slice ao n c] w fun e w' => e = .returned (.int .u64 (m : Nat)) ∧ Below w.heap.size w w' := by
  have K1 := hide C1; have K2 := hide C2
  clear C1 C2
  rcases hm with rfl | ⟨h0, rfl⟩
  · go_enter Tryz.func20, Tryz.ntmps20
    go_wp2_with fail
    refine Calls.mono (unhide K1) ?_
    rintro e w1 ⟨rfl, hb1⟩
    clear K1 K2
    go_wp2
    go_ret
    exact ⟨rfl, hb1⟩
  · have g0 : ((m : Int) == 0) = false := by rw [beq_eq_false_iff_ne]; omega
    clear h0
    go_enter Tryz.func20, Tryz.ntmps20
    go_wp2_with fail
    refine Calls.mono (unhide K1) ?_
    rintro e w1 ⟨rfl, hb1⟩
    clear K1
    go_wp2_with fail
    refine (unhide K2 _).mono ?_
    rintro e w2 ⟨rfl, rfl⟩
    clear K2
    go_wp2
    go_ret
    exact ⟨rfl, hb1⟩

set_option maxRecDepth 20000 in
set_option maxHeartbeats 4000000 in
theorem r9norm_even (ao : Option Addr) (c m : Nat) (k : Int) (I : List Int) (w : World) (hI : BitsAt w ao c I) (hn : I.length ≤ 35184372088830) (h0 : m ≠ 0) (hk : -5000 ≤ k ∧ k ≤ 5000)
    (C1 : Calls Tryz.prog 17 #[.slice ao I.length c] w fun e w'' => e = .returned (.int .u64 (m : Nat)) ∧ Below w.heap.size w w'')
    (C2 : ∀ w', Calls Tryz.prog 22 #[.int .u64 m] w' fun e w'' => e = .returned (.bool true) ∧ w' = w'')
    (C3 : ∀ w', Calls Tryz.prog 53 #[.int .u64 m] w' fun e w'' => e = .returned (.int .i64 k) ∧ Below w'.heap.size w' w'') :
    Calls Tryz.prog 20 #[.slice ao I.length c] w fun e w' => e = .returned (.int .u64 (xV (sV (dtK (tL k I) (tL k I) I.length)) k : Nat)) ∧ Below w.heap.size w w' := by
  have HI := hide hI
  have K1 := hide C1; have K2 := hide C2; have K3 := hide C3
  have g0 : ((m : Int) == 0) = false := by rw [beq_eq_false_iff_ne]; omega
  have hw : IntKind.i64.wrap (-k) = -k := by simp only [IntKind.wrap_i64]; omega
  have hw2 : (0 : Int) - k = -k := by omega
  have HK := hide hk
  have CF := hide (fun w' => r9sqrt_any (dtK (tL k I) (tL k I) I.length) w' (dtK_lt _ _ _))
  have CG := hide (fun w' => r9shift_any (sV (dtK (tL k I) (tL k I) I.length)) k w' (sV_lt _ (dtK_lt _ _ _)) hk)
  have HD : Hid (dtK (tL k I) (tL k I) 0 = 0) := rfl
  have HS := hide (fun j (hj : j < I.length) => show dtK (tL k I) (tL k I) (j + 1) = aV (dtK (tL k I) (tL k I) j) (mV (xV (atB I j) (-k)) (xV (atB I j) (-k))) by
    show aV (dtK (tL k I) (tL k I) j) (mV (atB (tL k I) j) (atB (tL k I) j)) = _
    rw [show atB (tL k I) j = xV (atB I j) (-k) from mkL_at _ _ j hj])
  have HL := hide (fun j => dtK_lt (tL k I) (tL k I) j)
  generalize dtK (tL k I) (tL k I) = F at *
  obtain ⟨n, hnn⟩ : ∃ n, I.length = n := ⟨_, rfl⟩
  rw [hnn] at hn K1 HS CF CG ⊢
  have HN := hide hnn
  clear hI hnn C1 C2 C3 h0 hk
  generalize xV (sV (F n)) k = rr at *
  generalize sV (F n) = ss at *
  go_enter Tryz.func20, Tryz.ntmps20
  go_wp2_with fail
  refine Calls.mono (unhide K1) ?_
  rintro e w1 ⟨rfl, hb1⟩
  have B := hide hb1
  clear K1 hb1
  go_wp2_with fail
  refine (unhide K2 _).mono ?_
  rintro e w2 ⟨rfl, rfl⟩
  clear K2
  go_wp2_with fail
  refine (unhide K3 _).mono ?_
  rintro e w2 ⟨rfl, hb2⟩
  have B2 := hide ((unhide B).trans (hb2.mono (unhide B).size))
  clear K3 hb2 B
  go_wp2_with fail
  go_loopw [5, 6] (fun t i wr => ∃ j : Nat, j ≤ n ∧ i = .int .i64 j ∧ t = .int .u64 (F j : Nat) ∧ Hid (Below w.heap.size w wr)) (fun _ i _ => n - (intOf i).toNat)
  case atStart => exact ⟨0, Nat.zero_le _, rfl, by rw [unhide HD]; rfl, B2⟩
  case round =>
    clear B2
    obtain ⟨j, hj, rfl, rfl, hB⟩ := hrel
    by_cases hlt : j < n
    · have hjI : (j : Int) < (n : Int) := by omega
      obtain ⟨b, off, hao, hb, hc⟩ := ((unhide HI).below hB.out).ne (by rw [unhide HN]; omega)
      have hck := hc j (by rw [unhide HN]; exact hlt)
      have x64 := (unhide HI).lt j
      have D1 := hide (fun w' => r9shift_any (atB I j) (-k) w' x64 (by have := unhide HK; omega))
      have D2 := hide (fun w' => r9mul_any (xV (atB I j) (-k)) (xV (atB I j) (-k)) w' (xV_lt _ _ x64) (xV_lt _ _ x64))
      have D3 := hide (fun w' => r9add_any (F j) (mV (xV (atB I j) (-k)) (xV (atB I j) (-k))) w' (unhide HL j) (mV_lt _ _))
      have eV := hide (unhide HS j hlt)
      subst hao
      clear hc x64
      generalize aV (F j) (mV (xV (atB I j) (-k)) (xV (atB I j) (-k))) = o at *
      generalize mV (xV (atB I j) (-k)) (xV (atB I j) (-k)) = p at *
      generalize xV (atB I j) (-k) = t at *
      generalize atB I j = x at *
      go_wp2_with fail
      refine (unhide D1 _).mono ?_
      rintro e w3 ⟨rfl, hb3⟩
      have B3 := hide (hB.out.trans (hb3.mono hB.out.size))
      clear hb3 D1 hB
      go_wp2_with fail
      refine (unhide D2 _).mono ?_
      rintro e w4 ⟨rfl, hb4⟩
      have B4 := hide ((unhide B3).trans (hb4.mono (unhide B3).size))
      clear hb4 D2 B3
      go_wp2_with fail
      refine (unhide D3 _).mono ?_
      rintro e w5 ⟨rfl, hb5⟩
      have B5 := hide ((unhide B4).trans (hb5.mono (unhide B4).size))
      clear hb5 D3 B4
      go_wp2_with fail
      go_round
      case rel => exact ⟨j + 1, by omega, by go_num, by rw [unhide eV], B5⟩
      case measure => simp [intOf]; omega
    · have hkk : j = n := by omega
      subst hkk
      go_wp2_with fail
      refine (unhide CF _).mono ?_
      rintro e w3 ⟨rfl, hb3⟩
      have B3 := hide (hB.out.trans (hb3.mono hB.out.size))
      clear hb3 CF hB
      go_wp2_with fail
      refine (unhide CG _).mono ?_
      rintro e w4 ⟨rfl, hb4⟩
      have B4 := hide ((unhide B3).trans (hb4.mono (unhide B3).size))
      clear hb4 CG B3
      go_wp2
      exact bodyPost_ret (v := .int .u64 (rr : Nat)) (by simp [results, Tryz.results20, go_sem]) rfl ⟨rfl, unhide B4⟩

theorem r9norm_any (ao : Option Addr) (c : Nat) (I : List Int) (w : World) (hI : BitsAt w ao c I) (hn : I.length ≤ 35184372088830) :
    Calls Tryz.prog 20 #[.slice ao I.length c] w fun e w' => e = .returned (.int .u64 (nmV I : Nat)) ∧ Below w.heap.size w w' := by
  have C1 := r9biggest_any ao c I w hI hn
  have hm := bgK_lt I I.length
  have C2 := fun w' => rfinite_any (bgK I I.length) w' hm
  unfold nmV
  by_cases h0 : bgK I I.length = 0
  · rw [if_pos (.inl h0)]
    exact r9norm_odd ao _ c _ _ w (.inl h0) C1 C2
  cases hf : fFin (bgK I I.length)
  · rw [hf] at C2
    rw [if_pos (.inr rfl)]
    exact r9norm_odd ao _ c _ _ w (.inr ⟨h0, rfl⟩) C1 C2
  · rw [hf] at C2
    rw [if_neg (fun e => e.elim h0 (fun e => by cases e))]
    have hr := eX_range _ hm
    exact r9norm_even ao c _ _ I w hI hn h0 (by omega) C1 C2 (fun w' => r8exp_any _ w' hm)

end Go.Proofs.YtlbggedahpnjgaaGreatDoor

/- The reference's Tame. -/
namespace Go.Proofs.YtlbggedahpnjgaaGreatDoor
open Go.RowKit
attribute [local go_sem ↓] Go.wp_at_zero Go.wp_at_succ

/-- Is a number 0, or neither very great nor very small? -/
def tmB (K : Int) (x : Nat) : Bool := fFin x && (decide (fK x = 0) || decide (-K ≤ eX x ∧ eX x < K))
def tmK (K : Int) (I : List Int) : Nat → Bool
  | 0 => true
  | k + 1 => tmK K I k && tmB K (atB I k)
theorem tmK_down (K : Int) (I : List Int) : ∀ (m k : Nat), k ≤ m → tmK K I m = true → tmK K I k = true := by
  intro m
  induction m with
  | zero => intro k hk _; rw [show k = 0 by omega]; rfl
  | succ m ih =>
    intro k hk h
    have h' : (tmK K I m && tmB K (atB I m)) = true := h
    rw [Bool.and_eq_true] at h'
    by_cases e : k = m + 1
    · subst e; exact h
    · exact ih k (by omega) h'.1
theorem tmK_at (K : Int) (I : List Int) (n k : Nat) (hk : k < n) (h : tmK K I n = true) : tmB K (atB I k) = true := by
  have h2 : (tmK K I k && tmB K (atB I k)) = true := tmK_down K I n (k + 1) (by omega) h
  rw [Bool.and_eq_true] at h2
  exact h2.2
theorem tmK_no (K : Int) (I : List Int) (n k : Nat) (hk : k < n) (h : tmB K (atB I k) = false) : tmK K I n = false := by
  cases e : tmK K I n
  · rfl
  · rw [tmK_at K I n k hk e] at h
    cases h
theorem tmB_ways (K : Int) (x : Nat) : (fFin x = false ∧ tmB K x = false) ∨ (fFin x = true ∧ fK x = 0 ∧ tmB K x = true) ∨ (fFin x = true ∧ fK x ≠ 0 ∧ eX x < -K ∧ tmB K x = false) ∨ (fFin x = true ∧ fK x ≠ 0 ∧ -K ≤ eX x ∧ K ≤ eX x ∧ tmB K x = false) ∨ (fFin x = true ∧ fK x ≠ 0 ∧ -K ≤ eX x ∧ eX x < K ∧ tmB K x = true) := by
  unfold tmB
  cases hf : fFin x
  · exact .inl ⟨rfl, rfl⟩
  · right
    by_cases h0 : fK x = 0
    · left; exact ⟨rfl, h0, by rw [decide_eq_true h0]; rfl⟩
    · right
      rw [decide_eq_false h0]
      by_cases h1 : eX x < -K
      · left; exact ⟨rfl, h0, h1, by rw [decide_eq_false (by omega)]; rfl⟩
      · right
        by_cases h2 : K ≤ eX x
        · left; exact ⟨rfl, h0, by omega, h2, by rw [decide_eq_false (by omega)]; rfl⟩
        · right; exact ⟨rfl, h0, by omega, by omega, by rw [decide_eq_true (by omega)]; rfl⟩

set_option maxRecDepth 20000 in
set_option maxHeartbeats 8000000 in
theorem r9tame_any (ao : Option Addr) (c : Nat) (I : List Int) (K : Int) (w : World) (hI : BitsAt w ao c I) (hn : I.length ≤ 35184372088830) (hK : -5000 ≤ K ∧ K ≤ 5000) :
    Calls Tryz.prog 21 #[.slice ao I.length c, .int .i64 K] w fun e w' => e = .returned (.bool (tmK K I I.length)) ∧ Below w.heap.size w w' := by
  have HI := hide hI
  obtain ⟨n, hnn⟩ : ∃ n, I.length = n := ⟨_, rfl⟩
  rw [hnn] at hn ⊢
  have HN := hide hnn
  have hw : IntKind.i64.wrap (-K) = -K := by simp only [IntKind.wrap_i64]; omega
  clear hI hnn hK
  obtain ⟨v, hv⟩ : ∃ v, tmK K I n = v := ⟨_, rfl⟩
  rw [hv]
  have HV := hide hv
  clear hv
  go_enter Tryz.func21, Tryz.ntmps21
  go_wp2_with fail
  go_loopw [5] (fun i wr => ∃ k : Nat, k ≤ n ∧ i = .int .i64 k ∧ Hid (tmK K I k = true) ∧ Hid (Below w.heap.size w wr)) (fun i _ => n - (intOf i).toNat)
  case atStart => exact ⟨0, Nat.zero_le _, rfl, rfl, Below.refl _ _⟩
  case round =>
    obtain ⟨k, hk, rfl, hq, hB⟩ := hrel
    by_cases hlt : k < n
    · have hkI : (k : Int) < (n : Int) := by omega
      obtain ⟨b, off, hao, hb, hc⟩ := ((unhide HI).below hB.out).ne (by rw [unhide HN]; omega)
      have hck := hide (hc k (by rw [unhide HN]; exact hlt))
      have x64 := (unhide HI).lt k
      have C1 := hide (fun w' => rfinite_any (atB I k) w' x64)
      have C2 := hide (fun w' => rkind_any (atB I k) w' x64)
      have C3 := hide (fun w' => r8exp_any (atB I k) w' x64)
      have eV : Hid (tmK K I (k + 1) = (tmK K I k && tmB K (atB I k))) := rfl
      have eF := hide (fun h => tmK_no K I n k hlt h)
      have WY := hide (tmB_ways K (atB I k))
      subst hao
      clear hc x64
      generalize tmB K (atB I k) = tb at *
      generalize eX (atB I k) = ex at *
      generalize fK (atB I k) = kd at *
      generalize fFin (atB I k) = ff at *
      generalize atB I k = x at *
      rcases unhide WY with ⟨rfl, rfl⟩ | ⟨rfl, rfl, rfl⟩ | ⟨rfl, g0, g1, rfl⟩ | ⟨rfl, g0, g1, g2, rfl⟩ | ⟨rfl, g0, g1, g2, rfl⟩
      · have hv2 := (unhide HV).symm.trans (unhide eF rfl)
        subst hv2
        clear WY eF
        have hc0 := unhide hck
        go_wp2_with fail
        refine (unhide C1 _).mono ?_
        rintro e w2 ⟨rfl, rfl⟩
        clear C1 C2 C3
        go_wp2_with fail
        exact bodyPost_ret (v := .bool false) (by simp [results, Tryz.results21, go_sem]) rfl ⟨rfl, hB.out⟩
      · clear WY eF
        have hc0 := unhide hck
        go_wp2_with fail
        refine (unhide C1 _).mono ?_
        rintro e w2 ⟨rfl, rfl⟩
        go_wp2_with fail
        refine (unhide C2 _).mono ?_
        rintro e w2 ⟨rfl, rfl⟩
        clear C1 C2 C3
        go_wp2_with fail
        go_round
        case rel => exact ⟨k + 1, by omega, by go_num, by unfold Hid; rw [eV.out, hq.out]; rfl, hB⟩
        case measure => simp [intOf]; omega
      · have hv2 := (unhide HV).symm.trans (unhide eF rfl)
        subst hv2
        clear WY eF
        have hc0 := unhide hck
        have g0' : (kd == 0) = false := by rw [beq_eq_false_iff_ne]; exact g0
        go_wp2_with fail
        refine (unhide C1 _).mono ?_
        rintro e w2 ⟨rfl, rfl⟩
        go_wp2_with fail
        refine (unhide C2 _).mono ?_
        rintro e w2 ⟨rfl, rfl⟩
        go_wp2_with fail
        refine (unhide C3 _).mono ?_
        rintro e w2 ⟨rfl, hb2⟩
        have B2 : Hid (Below w.heap.size w w2) := hB.out.trans (hb2.mono hB.out.size)
        clear C1 C2 C3 hb2
        go_wp2_with fail
        exact bodyPost_ret (v := .bool false) (by simp [results, Tryz.results21, go_sem]) rfl ⟨rfl, B2.out⟩
      · have hv2 := (unhide HV).symm.trans (unhide eF rfl)
        subst hv2
        clear WY eF
        have hc0 := unhide hck
        have HC := hck
        have g0' : (kd == 0) = false := by rw [beq_eq_false_iff_ne]; exact g0
        go_wp2_with fail
        refine (unhide C1 _).mono ?_
        rintro e w2 ⟨rfl, rfl⟩
        go_wp2_with fail
        refine (unhide C2 _).mono ?_
        rintro e w2 ⟨rfl, rfl⟩
        go_wp2_with fail
        refine (unhide C3 _).mono ?_
        rintro e w2 ⟨rfl, hb2⟩
        have hc2 := cell_keep (unhide HC) hb2
        have B2 : Hid (Below w.heap.size w w2) := hB.out.trans (hb2.mono hB.out.size)
        clear C1 C2 hb2 hc0
        go_wp2_with fail
        refine (unhide C3 _).mono ?_
        rintro e w3 ⟨rfl, hb3⟩
        have B3 : Hid (Below w.heap.size w w3) := B2.out.trans (hb3.mono B2.out.size)
        clear C3 hb3
        go_wp2_with fail
        exact bodyPost_ret (v := .bool false) (by simp [results, Tryz.results21, go_sem]) rfl ⟨rfl, B3.out⟩
      · clear WY eF
        have hc0 := unhide hck
        have HC := hck
        have g0' : (kd == 0) = false := by rw [beq_eq_false_iff_ne]; exact g0
        go_wp2_with fail
        refine (unhide C1 _).mono ?_
        rintro e w2 ⟨rfl, rfl⟩
        go_wp2_with fail
        refine (unhide C2 _).mono ?_
        rintro e w2 ⟨rfl, rfl⟩
        go_wp2_with fail
        refine (unhide C3 _).mono ?_
        rintro e w2 ⟨rfl, hb2⟩
        have hc2 := cell_keep (unhide HC) hb2
        have B2 : Hid (Below w.heap.size w w2) := hB.out.trans (hb2.mono hB.out.size)
        clear C1 C2 hb2 hc0
        go_wp2_with fail
        refine (unhide C3 _).mono ?_
        rintro e w3 ⟨rfl, hb3⟩
        have B3 : Hid (Below w.heap.size w w3) := B2.out.trans (hb3.mono B2.out.size)
        clear C3 hb3
        go_wp2_with fail
        go_round
        case rel => exact ⟨k + 1, by omega, by go_num, by unfold Hid; rw [eV.out, hq.out]; rfl, B3⟩
        case measure => simp [intOf]; omega
    · have hkk : k = n := by omega
      subst hkk
      have e2 := (unhide HV).symm.trans hq.out
      subst e2
      go_wp2_with fail
      exact bodyPost_ret (v := .bool true) (by simp [results, Tryz.results21, go_sem]) rfl ⟨rfl, hB.out⟩

end Go.Proofs.YtlbggedahpnjgaaGreatDoor

