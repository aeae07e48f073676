/- Part 34 of the texts. -/
import Derived.Test.YtlbggedahpnjgaaGreatDoorPart33
import Derived.OwnWalk
import Derived.Deep.RegionHeld3
import Derived.Deep.AppendLies
import Derived.Maps.AppendAt
import Derived.Test.YtlbggedahpnjgaaGreatDoorChecked
import Derived.Test.YtlbggedahpnjgaaGreatDoorPart02
import Derived.ProofKit
import Derived.SizedLaws
import Derived.Lib.SmallJoins
/- Lists of bits that a call itself makes; the reference's Times and Axpy. -/
namespace Go.Proofs.YtlbggedahpnjgaaGreatDoor
open Go.RowKit
attribute [local go_sem ↓] Go.wp_at_zero Go.wp_at_succ

theorem infoBits : (Tryz.prog.info? 23).map (fun i => (i.zero, i.size, i.bytes)) = some (some (.int .u64 0), 1, 8) := by kernel_rfl

/-- v is a list S of the call's own. -/
def OwnB (base : Nat) (w : World) (v : Value) (S : List Nat) : Prop := w.ownsRow base 23 1 v S.length (S.map bitV) ∧ ∀ x ∈ S, x < 18446744073709551616
theorem OwnB.below {base : Nat} {w w' : World} {v : Value} {S : List Nat} (h : OwnB base w v S) (hb : Below w.heap.size w w') : OwnB base w' v S :=
  ⟨h.1.kept (row := none) ⟨hb.os, hb.tape, hb.output, hb.size, fun k hk _ => hb.block k hk⟩ (by cases hv : v.ownBlock <;> simp), h.2⟩
theorem OwnB.bits {base : Nat} {w : World} {v : Value} {S : List Nat} (h : OwnB base w v S) : ∃ ao cap, v = .slice ao S.length cap ∧ BitsAt w ao cap (S.map (fun x : Nat => (x : Int))) := by
  have hl : (S.map bitV).length = S.length := by simp
  have hf : ∀ x ∈ S.map (fun x : Nat => (x : Int)), 0 ≤ x ∧ x ≤ 18446744073709551615 := by
    intro x hx
    obtain ⟨y, hy, rfl⟩ := List.mem_map.1 hx
    have := h.2 y hy
    omega
  rcases h.1.2 with ⟨hv, h0⟩ | ⟨g, cap, cur, hv, hg, hh, hc, hm, hs, ht⟩
  · have : S = [] := List.length_eq_zero_iff.1 (by omega)
    subst this
    exact ⟨none, 0, hv, ⟨by simp, by simp, .inl rfl⟩⟩
  · refine ⟨some ⟨g, 0, none⟩, cap, hv, ⟨by simp; omega, hf, .inr ⟨g, 0, rfl, (Array.getElem?_eq_some_iff.1 hh).1, fun i hi => ?_⟩⟩⟩
    have hi' : i < S.length := by simpa using hi
    have q : (S.map bitV)[i]? = some (.int .u64 ((S[i] : Nat) : Int)) := by
      rw [List.getElem?_map, List.getElem?_eq_getElem hi']; rfl
    rw [← ht, List.getElem?_take, if_pos (by omega)] at q
    rw [cell_of_row w g _ _ _ _ hh, Nat.zero_add]
    have e : (S.map (fun x : Nat => (x : Int)))[i]?.getD 0 = ((S[i] : Nat) : Int) := by simp [hi']
    rw [e]
    simpa using q
theorem OwnB.nil (w : World) (base : Nat) (h : base ≤ w.heap.size) : OwnB base (w.alloc (.cells #[] 23)) (.slice (some ⟨w.heap.size, 0, none⟩) 0 0) [] :=
  ⟨World.ownsRow_made w #[] 0 h (by simp [maxLen]) (by simp), by simp⟩
theorem OwnB.snoc {base : Nat} {w : World} {v : Value} {S : List Nat} {x n : Nat} (hn : n = S.length) (h : w.ownsRow base 23 1 v (n + 1) (S.map bitV ++ [.int .u64 (x : Int)])) (hS : ∀ x ∈ S, x < 18446744073709551616) (hx : x < 18446744073709551616) : OwnB base w v (S ++ [x]) := by
  subst hn
  refine ⟨by simpa [bitV] using h, fun y hy => ?_⟩
  rcases List.mem_append.1 hy with h1 | h1
  · exact hS y h1
  · simp at h1; subst h1; exact hx

/-- The first k places of what f makes. -/
def fsL (f : Nat → Nat) (k : Nat) : List Nat := (List.range k).map f
theorem fsL_len (f : Nat → Nat) (k : Nat) : (fsL f k).length = k := by simp [fsL]
theorem fsL_succ (f : Nat → Nat) (k : Nat) : fsL f (k + 1) = fsL f k ++ [f k] := by simp [fsL, List.range_succ]
theorem fsL_mk (f : Nat → Nat) (n : Nat) : (fsL f n).map (fun x : Nat => (x : Int)) = mkL n f := rfl

set_option maxRecDepth 20000 in
set_option maxHeartbeats 4000000 in
theorem r9times_any (a : Nat) (ao : Option Addr) (c : Nat) (I : List Int) (w : World) (ha : a < 18446744073709551616) (hI : BitsAt w ao c I) (hn : I.length ≤ 64) :
    Calls Tryz.prog 13 #[.int .u64 a, .slice ao I.length c] w fun e w' => ∃ bo d, e = .returned (.slice bo I.length d) ∧ BitsAt w' bo d (tmL a I) ∧ Below w.heap.size w w' := by
  obtain ⟨i0, hi, hz0, hz1, hz2⟩ := info_parts infoBits
  have HI := hide hI
  have HF : Hid (tmL a I = (fsL (fun k => mV a (atB I k)) I.length).map (fun x : Nat => (x : Int))) := rfl
  rw [HF.out]
  obtain ⟨n, hnn⟩ : ∃ n, I.length = n := ⟨_, rfl⟩
  rw [hnn] at hn ⊢
  have HN := hide hnn
  have O0 := hide (OwnB.nil w w.heap.size (Nat.le_refl _))
  clear hI hnn HF
  go_enter Tryz.func13, Tryz.ntmps13
  go_wp2_with fail
  go_loopw [5, 6] (fun v i wr => ∃ k : Nat, k ≤ n ∧ i = .int .i64 k ∧ Hid (OwnB w.heap.size wr v (fsL (fun k => mV a (atB I k)) k)) ∧ Hid (Below w.heap.size w wr)) (fun _ i _ => n - (intOf i).toNat)
  case atStart => exact ⟨0, Nat.zero_le _, rfl, O0, below_alloc9 _ _⟩
  case round =>
    clear O0
    obtain ⟨k, hk, rfl, hO, hB⟩ := hrel
    by_cases hlt : k < n
    · have hkI : (k : Int) < (n : Int) := by omega
      obtain ⟨b, off, hao, hb, hc⟩ := ((unhide HI).below hB.out).ne (by rw [unhide HN]; omega)
      have hck := hc k (by rw [unhide HN]; exact hlt)
      have C1 := hide (fun w' => r9mul_any a (atB I k) w' ha ((unhide HI).lt k))
      have SN := hide (fun (w' : World) (v' : Value) (h : w'.ownsRow w.heap.size 23 1 v' (k + 1) ((fsL (fun k => mV a (atB I k)) k).map bitV ++ [.int .u64 (mV a (atB I k) : Int)])) => (show OwnB w.heap.size w' v' (fsL (fun k => mV a (atB I k)) (k + 1)) by
        rw [fsL_succ]
        exact OwnB.snoc (by rw [fsL_len]) h (unhide hO).2 (mV_lt _ _)))
      have OW := hide (show wr.ownsRow w.heap.size 23 1 _ k ((fsL (fun k => mV a (atB I k)) k).map bitV) by have := (unhide hO).1; rwa [fsL_len] at this)
      subst hao
      clear hc hO
      generalize (fsL (fun k => mV a (atB I k)) k).map bitV = S1 at *
      generalize mV a (atB I k) = o at *
      generalize atB I k = x at *
      go_wp2_with fail
      refine (unhide C1 _).mono ?_
      rintro e w2 ⟨rfl, hb2⟩
      have B2 := hB.out.trans (hb2.mono hB.out.size)
      have hsz := B2.size
      have own2 := (unhide OW).kept (row := none) ⟨hb2.os, hb2.tape, hb2.output, hb2.size, fun k hk _ => hb2.block k hk⟩ (by first | (cases hv : Value.ownBlock _ <;> simp) | simp)
      clear hb2 C1 OW hB
      go_wp2_with (at_builtin; refine wpList_append_own _ rfl _ _ 24 rfl w.heap.size 23 i0 (.int .u64 0) 1 8 Tryz.underlying24 hi hz0 hz1 hz2 rfl (by decide) _ _ _ rfl (own2.alloc _) ⟨w2.heap.size, 0, none⟩ 1 1 [.int .u64 (o : Int)] rfl rfl (cell_one_new _ _ _) (fun u hu => by simp at hu; subst hu; rfl) (by unfold maxLen; omega) (by omega) (by simp; omega) ?_; intro v' w3 hown' hgrow _; have hbl : Hid (Below w.heap.size w w3) := hide ((B2.alloc hsz _).grown hgrow (by simp; omega) (fun g hg => (own2.lt g hg).1)); have ho2 := hide (unhide SN _ _ hown'); clear hown' hgrow)
      go_roundw
      case rel => exact ⟨k + 1, by omega, by go_num, ho2, hbl⟩
      case measure => simp [intOf]; omega
    · have hkk : k = n := by omega
      subst hkk
      obtain ⟨b1, d1, e1, q1⟩ := (unhide hO).bits
      rw [fsL_len] at e1
      subst e1
      have Q1 := hide q1
      clear q1 hO
      go_wp2_with fail
      go_ret
      exact ⟨b1, d1, rfl, unhide Q1, hB.out⟩

set_option maxRecDepth 20000 in
set_option maxHeartbeats 8000000 in
theorem r9axpy_any (a : Nat) (ao : Option Addr) (c : Nat) (I : List Int) (bo : Option Addr) (d : Nat) (J : List Int) (w : World) (ha : a < 18446744073709551616) (hI : BitsAt w ao c I) (hJ : BitsAt w bo d J) (hl : I.length = J.length) (hn : I.length ≤ 64) :
    Calls Tryz.prog 12 #[.int .u64 a, .slice ao I.length c, .slice bo J.length d] w fun e w' => ∃ co f, e = .returned (.slice co I.length f) ∧ BitsAt w' co f (axL a I J) ∧ Below w.heap.size w w' := by
  obtain ⟨i0, hi, hz0, hz1, hz2⟩ := info_parts infoBits
  have HI := hide hI; have HJ := hide hJ
  have HF : Hid (axL a I J = (fsL (fun k => aV (atB J k) (mV a (atB I k))) I.length).map (fun x : Nat => (x : Int))) := rfl
  rw [HF.out]
  obtain ⟨n, hnn⟩ : ∃ n, I.length = n := ⟨_, rfl⟩
  rw [← hl, hnn]
  rw [hnn] at hn hl
  have HN := hide hnn; have HM := hide hl.symm
  have O0 := hide (OwnB.nil w w.heap.size (Nat.le_refl _))
  clear hI hJ hnn HF hl
  go_enter Tryz.func12, Tryz.ntmps12
  go_wp2_with fail
  go_loopw [7, 8] (fun v i wr => ∃ k : Nat, k ≤ n ∧ i = .int .i64 k ∧ Hid (OwnB w.heap.size wr v (fsL (fun k => aV (atB J k) (mV a (atB I k))) k)) ∧ Hid (Below w.heap.size w wr)) (fun _ i _ => n - (intOf i).toNat)
  case atStart => exact ⟨0, Nat.zero_le _, rfl, O0, below_alloc9 _ _⟩
  case round =>
    clear O0
    obtain ⟨k, hk, rfl, hO, hB⟩ := hrel
    by_cases hlt : k < n
    · have hkI : (k : Int) < (n : Int) := by omega
      obtain ⟨b1, o1, hao, hb1, hc1⟩ := ((unhide HI).below hB.out).ne (by rw [unhide HN]; omega)
      obtain ⟨b2, o2, hbo, hb2, hc2⟩ := ((unhide HJ).below hB.out).ne (by rw [unhide HM]; omega)
      have cx := hc1 k (by rw [unhide HN]; exact hlt)
      have cy := hc2 k (by rw [unhide HM]; exact hlt)
      have C1 := hide (fun w' => r9mul_any a (atB I k) w' ha ((unhide HI).lt k))
      have C2 := hide (fun w' => r9add_any (atB J k) (mV a (atB I k)) w' ((unhide HJ).lt k) (mV_lt _ _))
      have SN := hide (fun (w' : World) (v' : Value) (h : w'.ownsRow w.heap.size 23 1 v' (k + 1) ((fsL (fun k => aV (atB J k) (mV a (atB I k))) k).map bitV ++ [.int .u64 (aV (atB J k) (mV a (atB I k)) : Int)])) => (show OwnB w.heap.size w' v' (fsL (fun k => aV (atB J k) (mV a (atB I k))) (k + 1)) by
        rw [fsL_succ]
        exact OwnB.snoc (by rw [fsL_len]) h (unhide hO).2 (aV_lt _ _ ((unhide HJ).lt k) (mV_lt _ _))))
      have OW := hide (show wr.ownsRow w.heap.size 23 1 _ k ((fsL (fun k => aV (atB J k) (mV a (atB I k))) k).map bitV) by have := (unhide hO).1; rwa [fsL_len] at this)
      subst hao
      subst hbo
      clear hc1 hc2 hO
      generalize (fsL (fun k => aV (atB J k) (mV a (atB I k))) k).map bitV = S1 at *
      generalize aV (atB J k) (mV a (atB I k)) = o at *
      generalize mV a (atB I k) = p at *
      generalize atB I k = x at *
      generalize atB J k = y at *
      have CX := hide cx; have CY := hide cy
      have KP := hide (fun (w' : World) (h : Below wr.heap.size wr w') => (unhide OW).kept (w' := w') (row := none) ⟨h.os, h.tape, h.output, h.size, fun k hk _ => h.block k hk⟩ (by first | (cases hv : Value.ownBlock _ <;> simp) | simp))
      go_wp2_with fail
      go_region_law (first | (refine step_append_lies _ (by rfl) _ _ _ (by rfl) w.heap.size 23 i0 (.int .u64 0) 1 8 Tryz.underlying24 hi hz0 hz1 hz2 rfl (by omega) _ k S1 (by rfl) (own5.alloc _) ⟨w5.heap.size, 0, none⟩ 1 1 [.int .u64 (o : Int)] (by rfl) rfl (cell_one_new _ _ _) (fun u hu => by simp at hu; subst hu; rfl) (by omega) (by unfold maxLen; omega) (by omega) (by simp; omega) _ rfl ?_; intro g cp w6 hown6 hgrow hat hlt6; have hbl : Hid (Below w.heap.size w w6) := hide ((b5.alloc b5.size _).grown hgrow (by simp; have := b5.size; omega) (fun g hg => (own5.lt g hg).1)); have ho2 := hide (unhide SN _ _ hown6); clear hown6 hgrow hat) | (go_simp; go_at_call 42; refine (unhide C1 _).mono ?_; rintro e w4 ⟨rfl, hb4⟩; have b4 : Below wr.heap.size wr w4 := ((Below.refl wr.heap.size wr).drew).trans hb4; have B4 := hide b4; clear cx cy; have cy := cell_keep (unhide CY) b4; clear b4 hb4) | (go_simp; go_at_call 41; refine (unhide C2 _).mono ?_; rintro e w5 ⟨rfl, hb5⟩; have c5 : Below wr.heap.size wr w5 := (unhide B4).trans (hb5.mono (unhide B4).size); have own5 := unhide KP _ c5; have b5 : Below w.heap.size w w5 := hB.out.trans (c5.mono hB.out.size); have s5 := b5.size; clear cy hb5 c5))
      all_goals
        go_wp2_with fail
        go_roundw
        case rel => exact ⟨k + 1, by omega, by go_num, ho2, hbl⟩
        case measure => simp [intOf]; omega
    · have hkk : k = n := by omega
      subst hkk
      obtain ⟨b1, d1, e1, q1⟩ := (unhide hO).bits
      rw [fsL_len] at e1
      subst e1
      have Q1 := hide q1
      clear q1 hO
      go_wp2_with fail
      go_ret
      exact ⟨b1, d1, rfl, unhide Q1, hB.out⟩

end Go.Proofs.YtlbggedahpnjgaaGreatDoor

/- Copies of lists; cells that are spoiled; are two lists the same. -/
namespace Go.Proofs.YtlbggedahpnjgaaGreatDoor
open Go.RowKit
attribute [local go_sem ↓] Go.wp_at_zero Go.wp_at_succ

/-- The numbers of a list. -/
def natL (I : List Int) : List Nat := I.map Int.toNat
theorem natL_len (I : List Int) : (natL I).length = I.length := by simp [natL]
theorem natL_back {w : World} {ao : Option Addr} {c : Nat} {I : List Int} (h : BitsAt w ao c I) : (natL I).map (fun x : Nat => (x : Int)) = I := by
  unfold natL
  rw [List.map_map]
  refine (List.map_congr_left fun x hx => ?_).trans (List.map_id I)
  have := h.2.1 x hx
  simp
  omega
theorem natL_lt {w : World} {ao : Option Addr} {c : Nat} {I : List Int} (h : BitsAt w ao c I) : ∀ x ∈ natL I, x < 18446744073709551616 := by
  intro x hx
  obtain ⟨y, hy, rfl⟩ := List.mem_map.1 hx
  have := h.2.1 y hy
  omega

set_option maxRecDepth 20000 in
theorem append_nil (w : World) (ty : TypeId) (g c : Nat) :
    (Builtin.append_ #[24, 24] ty #[.slice (some ⟨g, 0, none⟩) 0 0, .slice none 0 c]).run Tryz.prog w = .ok (.slice (some ⟨g, 0, none⟩) 0 0) w := by
  simp [Builtin.append_, go_sem]

/-- A list copied onto an empty one. -/
theorem copy_bits (w : World) (base : Nat) (ty : TypeId) (ao : Option Addr) (c : Nat) (I : List Int) (g : Nat) (h : BitsAt w ao c I) (hl : I.length ≤ 17592186043904) (hown : w.ownsRow base 23 1 (.slice (some ⟨g, 0, none⟩) 0 0) 0 []) (hbase : base ≤ w.heap.size) :
    ∃ po pc w', (Builtin.append_ #[24, 24] ty #[.slice (some ⟨g, 0, none⟩) 0 0, .slice ao I.length c]).run Tryz.prog w = .ok (.slice po I.length pc) w' ∧ OwnB base w' (.slice po I.length pc) (natL I) ∧ w.grownBy w' (some g) := by
  obtain ⟨i0, hi, hz0, hz1, hz2⟩ := info_parts infoBits
  cases ao with
  | none =>
    have h0 : I = [] := by
      rcases h.2.2 with e | ⟨b, off, e, _⟩
      · exact e
      · cases e
    subst h0
    refine ⟨some ⟨g, 0, none⟩, 0, w, append_nil w ty g c, ⟨hown, by simp [natL]⟩, ?_⟩
    exact ⟨rfl, rfl, rfl, Nat.le_refl _, fun k _ _ => rfl⟩
  | some a =>
    have hnews : ∀ j u, ((natL I).map bitV)[j]? = some u → w.cell? (a.add j) = some u := by
      intro j u hu
      rw [List.getElem?_map] at hu
      have hj : j < I.length := by
        rcases Nat.lt_or_ge j I.length with e | e
        · exact e
        · rw [List.getElem?_eq_none (by rw [natL_len]; exact e)] at hu; cases hu
      obtain ⟨b, off, e1, e2, e3⟩ := h.ne (by omega)
      cases e1
      rw [show (⟨b, off, none⟩ : Addr).add j = ⟨b, off + j, none⟩ by simp [Addr.add], e3 j hj]
      rw [← hu]
      simp [natL, hj, bitV, atB]
    obtain ⟨v', w', e1, e2, e3, e4, e5⟩ := run_append_own_at (P := Tryz.prog) w base 24 ty 23 i0 (.int .u64 0) 1 8 Tryz.underlying24 hi hz0 hz1 hz2 rfl (by decide) _ 0 [] hown a I.length c ((natL I).map bitV) (by simp [natL]) hnews (fun u hu => by
      obtain ⟨x, _, rfl⟩ := List.mem_map.1 hu
      rfl) (by unfold maxLen; omega) (by omega) hbase
    have ho : OwnB base w' v' (natL I) := ⟨by
      rw [natL_len]
      simpa using e2, natL_lt h⟩
    obtain ⟨po, pc, rfl, _⟩ := ho.bits
    rw [natL_len] at e1 ho
    exact ⟨po, pc, w', e1, ho, e3⟩

/-- n cells of block g hold bits, whatever they are. -/
def RowU (w : World) (g n : Nat) : Prop := ∃ cur : Array Value, w.heap[g]? = some (.cells cur 23 (0, 0)) ∧ n ≤ cur.size ∧ ∀ j, j < n → ∃ z : Int, cur[j]? = some (.int .u64 z)
theorem RowU.cell {w : World} {g n : Nat} (h : RowU w g n) {j : Nat} (hj : j < n) : ∃ z : Int, w.cell? ⟨g, j, none⟩ = some (.int .u64 z) := by
  obtain ⟨cur, h1, h2, h3⟩ := h
  obtain ⟨z, hz⟩ := h3 j hj
  exact ⟨z, by rw [cell_of_row w g j _ _ _ h1]; exact hz⟩
theorem RowU.free {w : World} {g n : Nat} (h : RowU w g n) (j : Nat) : w.frozen? ⟨g, j, none⟩ = false := by
  obtain ⟨cur, h1, _⟩ := h
  exact frozen_of_row w g j _ _ h1
theorem RowU.set {w : World} {g n : Nat} (h : RowU w g n) (b j : Nat) (z : Int) : RowU (w.setCell ⟨b, j, none⟩ (.int .u64 z)) g n := by
  obtain ⟨cur, h1, h2, h3⟩ := h
  by_cases e : g = b
  · subst e
    refine ⟨cur.setIfInBounds j (.int .u64 z), heap_setCell_same w g j _ _ _ h1, by simpa using h2, fun i hi => ?_⟩
    rw [Array.getElem?_setIfInBounds]
    by_cases ej : j = i
    · subst ej
      rw [if_pos rfl, if_pos (by omega)]
      exact ⟨z, rfl⟩
    · rw [if_neg ej]
      exact h3 i hi
  · exact ⟨cur, (Below.heap_setCell w ⟨b, j, none⟩ (.int .u64 z) g e).trans h1, h2, h3⟩
theorem RowU.below {w w' : World} {g n : Nat} (h : RowU w g n) (hb : Below w.heap.size w w') : RowU w' g n := by
  obtain ⟨cur, h1, h2⟩ := h
  exact ⟨cur, (hb.block g (Array.getElem?_eq_some_iff.1 h1).1).trans h1, h2⟩
/-- A copy's cells. -/
theorem OwnB.rowU {base : Nat} {w : World} {S : List Nat} {po : Option Addr} {n pc : Nat} (h : OwnB base w (.slice po n pc) S) (hn : 0 < S.length) : ∃ g, po = some ⟨g, 0, none⟩ ∧ base ≤ g ∧ g < w.heap.size ∧ RowU w g S.length := by
  rcases h.1.2 with ⟨_, h0⟩ | ⟨g, cap, cur, hv, hg, hh, hc, hm, hs, ht⟩
  · omega
  · simp only [Value.slice.injEq] at hv
    refine ⟨g, hv.1, hg, (Array.getElem?_eq_some_iff.1 hh).1, cur, hh, by omega, fun j hj => ?_⟩
    have q : (S.map bitV)[j]? = some (.int .u64 ((S[j] : Nat) : Int)) := by
      rw [List.getElem?_map, List.getElem?_eq_getElem hj]; rfl
    rw [← ht, List.getElem?_take, if_pos (by omega)] at q
    exact ⟨_, by simpa using q⟩

theorem BitsAt.other {w : World} {ao : Option Addr} {c : Nat} {I : List Int} (h : BitsAt w ao c I) {p : Addr} (hp : I = [] ∨ ∃ b off, ao = some ⟨b, off, none⟩ ∧ b ≠ p.block) (u : Value) : BitsAt (w.setCell p u) ao c I := by
  refine ⟨h.1, h.2.1, ?_⟩
  rcases h.2.2 with e | ⟨b, off, e1, e2, e3⟩
  · exact .inl e
  rcases hp with e | ⟨b', off', f1, f2⟩
  · exact .inl e
  rw [e1] at f1
  simp only [Option.some.injEq, Addr.mk.injEq] at f1
  obtain ⟨rfl, rfl, _⟩ := f1
  refine .inr ⟨b, off, e1, by simpa [World.setCell] using e2, fun i hi => ?_⟩
  rw [cell_setCell_other _ _ _ _ f2]
  exact e3 i hi

set_option maxRecDepth 20000 in
set_option maxHeartbeats 4000000 in
theorem same_any (ao bo : Option Addr) (c d : Nat) (I : List Int) (w : World) (hI : BitsAt w ao c I) (hJ : BitsAt w bo d I) (hn : I.length ≤ 35184372088830) :
    Calls Tryz.prog 11 #[.slice ao I.length c, .slice bo I.length d] w fun e w' => e = .returned (.bool true) ∧ Below w.heap.size w w' := by
  have HI := hide hI; have HJ := hide hJ
  obtain ⟨n, hnn⟩ : ∃ n, I.length = n := ⟨_, rfl⟩
  rw [hnn] at hn ⊢
  have HN := hide hnn
  clear hI hJ hnn
  go_enter Tryz.func11, Tryz.ntmps11
  go_wp2_with fail
  go_loopw [5] (fun i wr => ∃ k : Nat, k ≤ n ∧ i = .int .i64 k ∧ Hid (Below w.heap.size w wr)) (fun i _ => n - (intOf i).toNat)
  case atStart => exact ⟨0, Nat.zero_le _, rfl, Below.refl _ _⟩
  case round =>
    obtain ⟨k, hk, rfl, hB⟩ := hrel
    by_cases hlt : k < n
    · have hkI : (k : Int) < (n : Int) := by omega
      obtain ⟨b1, o1, hao, hb1, hc1⟩ := ((unhide HI).below hB.out).ne (by rw [unhide HN]; omega)
      obtain ⟨b2, o2, hbo, hb2, hc2⟩ := ((unhide HJ).below hB.out).ne (by rw [unhide HN]; omega)
      have cx := hc1 k (by rw [unhide HN]; exact hlt)
      have cy := hc2 k (by rw [unhide HN]; exact hlt)
      subst hao
      subst hbo
      clear hc1 hc2
      generalize atB I k = x at *
      go_wp2_with fail
      go_quiet (fail)
      go_wp2_with fail
      go_round
      case rel => exact ⟨k + 1, by omega, by go_num, hide (below_drewN hB.out _)⟩
      case measure => simp [intOf]; omega
    · have hkk : k = n := by omega
      subst hkk
      go_wp2_with fail
      exact bodyPost_ret (v := .bool true) (by simp [results, Tryz.results11, go_sem]) rfl ⟨rfl, hB.out⟩

end Go.Proofs.YtlbggedahpnjgaaGreatDoor

/- The law VectorAxpys, walked. -/
namespace Go.Proofs.YtlbggedahpnjgaaGreatDoor
open Go.RowKit
attribute [local go_sem ↓] Go.wp_at_zero Go.wp_at_succ

/-- Where a list lies: from block H on. -/
def NewB (H : Nat) (ao : Option Addr) (I : List Int) : Prop := I = [] ∨ ∃ b off, ao = some ⟨b, off, none⟩ ∧ H ≤ b
/-- A copy, whose cells may be spoiled. -/
def CopyB (base H : Nat) (w : World) (po : Option Addr) (n : Nat) : Prop := n = 0 ∨ ∃ g, po = some ⟨g, 0, none⟩ ∧ base ≤ g ∧ g < H ∧ RowU w g n
theorem CopyB.below {base H : Nat} {w w' : World} {po : Option Addr} {n : Nat} (h : CopyB base H w po n) (hb : Below w.heap.size w w') : CopyB base H w' po n := by
  rcases h with h | ⟨g, h1, h2, h3, h4⟩
  · exact .inl h
  · exact .inr ⟨g, h1, h2, h3, h4.below hb⟩
theorem CopyB.set {base H : Nat} {w : World} {po : Option Addr} {n : Nat} (h : CopyB base H w po n) (b j : Nat) (z : Int) : CopyB base H (w.setCell ⟨b, j, none⟩ (.int .u64 z)) po n := by
  rcases h with h | ⟨g, h1, h2, h3, h4⟩
  · exact .inl h
  · exact .inr ⟨g, h1, h2, h3, h4.set b j z⟩
theorem CopyB.upto {base H H' : Nat} {w : World} {po : Option Addr} {n : Nat} (h : CopyB base H w po n) (hH : H ≤ H') : CopyB base H' w po n := by
  rcases h with h | ⟨g, h1, h2, h3, h4⟩
  · exact .inl h
  · exact .inr ⟨g, h1, h2, by omega, h4⟩
theorem CopyB.base {base base' H : Nat} {w : World} {po : Option Addr} {n : Nat} (h : CopyB base H w po n) (hb : base' ≤ base) : CopyB base' H w po n := by
  rcases h with h | ⟨g, h1, h2, h3, h4⟩
  · exact .inl h
  · exact .inr ⟨g, h1, by omega, h3, h4⟩
theorem OwnB.copy {base : Nat} {w : World} {I : List Int} {po : Option Addr} {pc : Nat} (h : OwnB base w (.slice po I.length pc) (natL I)) : CopyB base w.heap.size w po I.length := by
  rcases Nat.eq_zero_or_pos I.length with e | e
  · exact .inl e
  · obtain ⟨g, h1, h2, h3, h4⟩ := h.rowU (by rw [natL_len]; exact e)
    rw [natL_len] at h4
    exact .inr ⟨g, h1, h2, h3, h4⟩
theorem BitsAt.far {H : Nat} {w : World} {ao : Option Addr} {c : Nat} {I : List Int} (h : BitsAt w ao c I) (hn : NewB H ao I) {b : Nat} (hb : b < H) (j : Nat) (u : Value) : BitsAt (w.setCell ⟨b, j, none⟩ u) ao c I := by
  refine h.other ?_ u
  rcases hn with e | ⟨b', off, e1, e2⟩
  · exact .inl e
  · exact .inr ⟨b', off, e1, by show b' ≠ b; omega⟩

/-- What holds while the copies are spoiled. -/
structure SpSt (w wr : World) (H : Nat) (po qo : Option Addr) (n m : Nat) (so to' : Option Addr) (cs ct : Nat) (S T : List Int) : Prop where
  bel : Below w.heap.size w wr
  p : CopyB w.heap.size H wr po n
  q : CopyB w.heap.size H wr qo m
  s : BitsAt wr so cs S
  t : BitsAt wr to' ct T
  ns : NewB H so S
  nt : NewB H to' T
theorem SpSt.put {w wr : World} {H : Nat} {po qo : Option Addr} {n m : Nat} {so to' : Option Addr} {cs ct : Nat} {S T : List Int} (h : SpSt w wr H po qo n m so to' cs ct S T) {g : Nat} (hg : w.heap.size ≤ g) (hH : g < H) (j : Nat) (z : Int) : SpSt w (wr.setCell ⟨g, j, none⟩ (.int .u64 z)) H po qo n m so to' cs ct S T :=
  ⟨h.bel.setCell (p := ⟨g, j, none⟩) hg _, h.p.set g j z, h.q.set g j z, h.s.far h.ns hH j _, h.t.far h.nt hH j _, h.ns, h.nt⟩
theorem SpSt.drewN {w wr : World} {H : Nat} {po qo : Option Addr} {n m : Nat} {so to' : Option Addr} {cs ct : Nat} {S T : List Int} (h : SpSt w wr H po qo n m so to' cs ct S T) (k : Nat) : SpSt w (wr.drewN k) H po qo n m so to' cs ct S T :=
  have b := below_drewN (Below.refl wr.heap.size wr) k
  ⟨below_drewN h.bel k, h.p.below b, h.q.below b, h.s.below b, h.t.below b, h.ns, h.nt⟩

theorem OwnB.same {base : Nat} {w w0 : World} {I : List Int} {po ao : Option Addr} {pc c : Nat} (h : OwnB base w (.slice po I.length pc) (natL I)) (h0 : BitsAt w0 ao c I) : BitsAt w po pc I := by
  obtain ⟨ao', cap', e, hb⟩ := h.bits
  simp only [Value.slice.injEq] at e
  obtain ⟨rfl, _, rfl⟩ := e
  rw [natL_back h0] at hb
  exact hb

/-- An append whose run is known. -/
theorem wpList_append_eq {P : Program} (w : World) {ops : Array Oper} {rest : List Oper} {o : Oper} {a : Act} {Q : Exit → Act → World → Prop} (hgd : o.guard = none) (s x : Operand) (t : TypeId)
    (ho : o.op = .call { callee := .builtin .append, args := #[s, x], argTypes := #[t, t] }) (v1 v2 v' : Value) (w' : World) (hs : a.eval s = v1) (hx : a.eval x = v2)
    (hr : (Builtin.append_ #[t, t] o.type #[v1, v2]).run P w = .ok v' w') (h : wpList P ops Q rest (a.put o.dst v') w') : wpList P ops Q (o :: rest) a w :=
  wpList_plain hgd fun _ hK => by
    unfold Oper.wp execOp
    simp only [ho, resolve, invoke, builtin, Sem.run_bind, Sem.run_pure, Result.andThen_ok, List.map_toArray, List.map_cons, List.map_nil, hs, hx, hr]
    exact hK _ _ h

set_option maxRecDepth 20000 in
set_option maxHeartbeats 8000000 in
theorem vectorAxpys_of (a : Nat) (ao bo : Option Addr) (c d : Nat) (I J S T : List Int) (f h : Int) (w : World) (hI : BitsAt w ao c I) (hJ : BitsAt w bo d J) (hi : I.length ≤ 17592186043904) (hj : J.length ≤ 17592186043904) (hT : Tab w)
    (way : (f = 0 ∧ h = 0 ∧ S.length = I.length ∧ T.length = I.length ∧ I.length ≤ 64) ∨ (f = 3 ∧ h = 0 ∧ S = [] ∧ T.length = I.length ∧ I.length ≤ 64) ∨ (f = 3 ∧ h = 3 ∧ S = [] ∧ T = []))
    (C1 : ∀ w' po pc qo qc, Tab w' → BitsAt w' po pc I → BitsAt w' qo qc J → Calls Tryz.prog 8 #[.int .u64 a, .slice po I.length pc, .slice qo J.length qc] w' fun e w'' => ∃ so cs, e = .returned (.tuple #[.slice so S.length cs, .int .i64 f]) ∧ NewB w'.heap.size so S ∧ BitsAt w'' so cs S ∧ Below w'.heap.size w' w'')
    (C2 : ∀ w' po pc, Tab w' → BitsAt w' po pc I → Calls Tryz.prog 9 #[.int .u64 a, .slice po I.length pc] w' fun e w'' => ∃ so cs, e = .returned (.tuple #[.slice so T.length cs, .int .i64 h]) ∧ NewB w'.heap.size so T ∧ BitsAt w'' so cs T ∧ Below w'.heap.size w' w'')
    (C3 : ∀ w', Calls Tryz.prog 10 #[.slice ao I.length c, .slice bo J.length d] w' fun e w'' => e = .returned (.int .i64 f) ∧ w' = w'')
    (C4 : ∀ w', Calls Tryz.prog 10 #[.slice ao I.length c, .slice ao I.length c] w' fun e w'' => e = .returned (.int .i64 h) ∧ w' = w'')
    (C5 : f = 0 → ∀ w', Below w.heap.size w w' → Calls Tryz.prog 12 #[.int .u64 a, .slice ao I.length c, .slice bo J.length d] w' fun e w'' => ∃ so cs, e = .returned (.slice so S.length cs) ∧ BitsAt w'' so cs S ∧ Below w'.heap.size w' w'')
    (C6 : h = 0 → ∀ w', Below w.heap.size w w' → Calls Tryz.prog 13 #[.int .u64 a, .slice ao I.length c] w' fun e w'' => ∃ so cs, e = .returned (.slice so T.length cs) ∧ BitsAt w'' so cs T ∧ Below w'.heap.size w' w'') :
    Calls Tryz.prog 3 #[.int .u64 a, .slice ao I.length c, .slice bo J.length d] w fun r w' => r = .returned (.bool true) ∧ Below w.heap.size w w' := by
  have HI := hide hI; have HJ := hide hJ; have HT := hide hT; have WAY := hide way
  have K1 := hide C1; have K2 := hide C2; have K3 := hide C3; have K4 := hide C4; have K5 := hide C5; have K6 := hide C6
  have b0 := below_alloc9 w (.cells #[] 23)
  obtain ⟨po, pc, w1, run1, own1, gr1⟩ := copy_bits (w.alloc (.cells #[] 23)) w.heap.size 24 ao c I w.heap.size (hI.below b0) hi (OwnB.nil w w.heap.size (Nat.le_refl _)).1 (by simp)
  have b1 := b0.grown gr1 (by simp) (fun g hg => by cases hg; exact Nat.le_refl _)
  have b1' := below_alloc9 w1 (.cells #[] 23)
  have b12 := b1.trans (b1'.mono b1.size)
  obtain ⟨qo, qc, w2, run2, own2, gr2⟩ := copy_bits (w1.alloc (.cells #[] 23)) w1.heap.size 24 bo d J w1.heap.size (hJ.below b12) hj (OwnB.nil w1 w1.heap.size (Nat.le_refl _)).1 (by simp)
  have b2 := b1'.grown gr2 (by simp) (fun g hg => by cases hg; exact Nat.le_refl _)
  have BB := hide (b1.trans (b2.mono b1.size))
  have O1 := hide ((own1.below b2).same hI); have O2 := hide (own2.same hJ)
  have RUN1 := hide run1; have RUN2 := hide run2
  have P1 := hide (own1.copy.below b2); have P2 := hide (own2.copy.base b1.size)
  have hsz := hide (And.intro b1.size b2.size)
  clear hI hJ hT way C1 C2 C3 C4 C5 C6 b0 gr1 own1 b1 b1' b12 gr2 own2 b2 run1 run2
  go_enter Tryz.func3, Tryz.ntmps3
  go_wp2_with (first | (at_builtin; refine wpList_append_eq _ rfl _ _ 24 rfl _ _ _ _ rfl rfl (unhide RUN1) ?_; clear RUN1) | (at_builtin; refine wpList_append_eq _ rfl _ _ 24 rfl _ _ _ _ rfl rfl (unhide RUN2) ?_; clear RUN2))
  refine (unhide K1 _ _ _ _ _ ((unhide HT).all (unhide BB)) (unhide O1) (unhide O2)).mono ?_
  rintro e w3 ⟨so, cs, rfl, ns, hs, hb3⟩
  have B3 := hide ((unhide BB).trans (hb3.mono (unhide BB).size))
  have NS := hide ns; have HS := hide hs; have O1' := hide ((unhide O1).below hb3)
  have P1' := hide ((unhide P1).below hb3); have P2' := hide ((unhide P2).below hb3); have SZ3 := hide hb3.size
  clear K1 BB O1 O2 P1 P2 hb3 hs ns
  go_wp2_with fail
  refine (unhide K2 _ _ _ ((unhide HT).all (unhide B3)) (unhide O1')).mono ?_
  rintro e w4 ⟨to', ct, rfl, nt, ht, hb4⟩
  have nt' : NewB w2.heap.size to' T := by
    rcases nt with e | ⟨b, off, e1, e2⟩
    · exact .inl e
    · exact .inr ⟨b, off, e1, Nat.le_trans (unhide SZ3) e2⟩
  have SP := hide (show SpSt w w4 w2.heap.size po qo I.length J.length so to' cs ct S T from ⟨(unhide B3).trans (hb4.mono (unhide B3).size), ((unhide P1').below hb4).upto (unhide hsz).2, (unhide P2').below hb4, (unhide HS).below hb4, ht, unhide NS, nt'⟩)
  clear K2 B3 O1' P1' P2' SZ3 HS NS hb4 ht nt nt' hsz
  go_wp2_with fail
  go_loopw [13] (fun i wr => ∃ k : Nat, k ≤ I.length ∧ i = .int .i64 k ∧ Hid (SpSt w wr w2.heap.size po qo I.length J.length so to' cs ct S T)) (fun i _ => I.length - (intOf i).toNat)
  case atStart => exact ⟨0, Nat.zero_le _, rfl, SP⟩
  case round =>
    clear SP
    obtain ⟨k, hk, rfl, hP⟩ := hrel
    by_cases hlt : k < I.length
    · have hkI : (k : Int) < (I.length : Int) := by omega
      obtain ⟨g, e1, e2, e3, e4⟩ := (unhide hP).p.resolve_left (by omega)
      obtain ⟨z, cz⟩ := e4.cell hlt
      have fz := e4.free k
      subst e1
      have PUT := hide (fun z => (unhide hP).put e2 e3 k z)
      clear e2 e3 e4 hP
      go_wp2_with fail
      go_round
      case rel => exact ⟨k + 1, by omega, by go_num, unhide PUT _⟩
      case measure => simp [intOf]; omega
    · have SP := hP
      have hkk : k = I.length := by omega
      subst hkk
      clear hP hlt hk
      go_wp2_with fail
      go_loopw [14] (fun i wr => ∃ k : Nat, k ≤ J.length ∧ i = .int .i64 k ∧ Hid (SpSt w wr w2.heap.size po qo I.length J.length so to' cs ct S T)) (fun i _ => J.length - (intOf i).toNat)
      case atStart => exact ⟨0, Nat.zero_le _, rfl, SP⟩
      case round =>
        clear SP
        obtain ⟨k, hk, rfl, hP⟩ := hrel
        by_cases hlt : k < J.length
        · have hkI : (k : Int) < (J.length : Int) := by omega
          obtain ⟨g, e1, e2, e3, e4⟩ := (unhide hP).q.resolve_left (by omega)
          obtain ⟨z, cz⟩ := e4.cell hlt
          have fz := e4.free k
          subst e1
          have PUT := hide (fun z => (unhide hP).put e2 e3 k z)
          clear e2 e3 e4 hP
          go_wp2_with fail
          go_round
          case rel => exact ⟨k + 1, by omega, by go_num, unhide PUT _⟩
          case measure => simp [intOf]; omega
        · have SP := hP
          have hkk : k = J.length := by omega
          subst hkk
          clear hP hlt hk
          have BE := hide (unhide SP).bel; have SB := hide (unhide SP).s; have TB := hide (unhide SP).t
          clear SP
          rcases unhide WAY with ⟨rfl, rfl, l1, l2, l3⟩ | ⟨rfl, rfl, rfl, l2, l3⟩ | ⟨rfl, rfl, rfl, rfl⟩
          · clear WAY
            have q1 := hide (show S.length ≤ 35184372088830 by omega); have q2 := hide (show T.length ≤ 35184372088830 by omega)
            clear l1 l2 l3
            go_wp2_with fail
            refine (unhide K3 _).mono ?_
            rintro e w5 ⟨rfl, rfl⟩
            go_wp2_with fail
            refine (unhide K4 _).mono ?_
            rintro e w5 ⟨rfl, rfl⟩
            clear K3 K4
            go_wp2_with fail
            refine (unhide K5 (by first | rfl | trivial) _ (unhide BE)).mono ?_
            rintro e w6 ⟨uo, cuo, rfl, hu, hb⟩
            have HU := hide hu
            have BE := hide ((unhide BE).trans (hb.mono (unhide BE).size)); have SB := hide ((unhide SB).below hb); have TB := hide ((unhide TB).below hb)
            clear hu hb K5
            go_wp2_with fail
            refine (same_any _ _ _ _ S _ (unhide SB) (unhide HU) (unhide q1)).mono ?_
            rintro e w7 ⟨rfl, hb⟩
            have BE := hide ((unhide BE).trans (hb.mono (unhide BE).size)); have SB := hide ((unhide SB).below hb); have TB := hide ((unhide TB).below hb)
            clear hb HU
            go_wp2_with fail
            refine (unhide K6 (by first | rfl | trivial) _ (unhide BE)).mono ?_
            rintro e w6 ⟨vo, cvo, rfl, hu, hb⟩
            have HU := hide hu
            have BE := hide ((unhide BE).trans (hb.mono (unhide BE).size)); have SB := hide ((unhide SB).below hb); have TB := hide ((unhide TB).below hb)
            clear hu hb K6
            go_wp2_with fail
            refine (same_any _ _ _ _ T _ (unhide TB) (unhide HU) (unhide q2)).mono ?_
            rintro e w7 ⟨rfl, hb⟩
            have BE := hide ((unhide BE).trans (hb.mono (unhide BE).size)); have SB := hide ((unhide SB).below hb); have TB := hide ((unhide TB).below hb)
            clear hb HU
            go_wp2_with fail
            refine (awake9_any _ ((unhide HT).all (unhide BE))).mono ?_
            rintro e w8 ⟨rfl, hb⟩
            have BE := hide ((unhide BE).trans (hb.mono (unhide BE).size))
            clear hb
            go_wp2
            go_ret
            exact ⟨rfl, unhide BE⟩
          · clear WAY
            have q2 := hide (show T.length ≤ 35184372088830 by omega)
            clear l2 l3
            go_wp2_with fail
            refine (unhide K3 _).mono ?_
            rintro e w5 ⟨rfl, rfl⟩
            go_wp2_with fail
            refine (unhide K4 _).mono ?_
            rintro e w5 ⟨rfl, rfl⟩
            clear K3 K4
            go_wp2_with fail
            refine (unhide K6 (by first | rfl | trivial) _ (unhide BE)).mono ?_
            rintro e w6 ⟨vo, cvo, rfl, hu, hb⟩
            have HU := hide hu
            have BE := hide ((unhide BE).trans (hb.mono (unhide BE).size)); have SB := hide ((unhide SB).below hb); have TB := hide ((unhide TB).below hb)
            clear hu hb K6
            go_wp2_with fail
            refine (same_any _ _ _ _ T _ (unhide TB) (unhide HU) (unhide q2)).mono ?_
            rintro e w7 ⟨rfl, hb⟩
            have BE := hide ((unhide BE).trans (hb.mono (unhide BE).size)); have SB := hide ((unhide SB).below hb); have TB := hide ((unhide TB).below hb)
            clear hb HU
            go_wp2_with fail
            refine (awake9_any _ ((unhide HT).all (unhide BE))).mono ?_
            rintro e w8 ⟨rfl, hb⟩
            have BE := hide ((unhide BE).trans (hb.mono (unhide BE).size))
            clear hb
            go_wp2
            go_ret
            exact ⟨rfl, unhide BE⟩
          · clear WAY
            go_wp2_with fail
            refine (unhide K3 _).mono ?_
            rintro e w5 ⟨rfl, rfl⟩
            go_wp2_with fail
            refine (unhide K4 _).mono ?_
            rintro e w5 ⟨rfl, rfl⟩
            clear K3 K4
            go_wp2_with fail
            refine (awake9_any _ ((unhide HT).all (unhide BE))).mono ?_
            rintro e w8 ⟨rfl, hb⟩
            have BE := hide ((unhide BE).trans (hb.mono (unhide BE).size))
            clear hb
            go_wp2
            go_ret
            exact ⟨rfl, unhide BE⟩

theorem axL_len (a : Nat) (I J : List Int) : (axL a I J).length = I.length := mkL_len _ _
theorem tmL_len (a : Nat) (I : List Int) : (tmL a I).length = I.length := mkL_len _ _

theorem vectorAxpys_walk (a : Nat) (ao : Option Addr) (c : Nat) (I : List Int) (bo : Option Addr) (d : Nat) (J : List Int) (w : World) (ha : a < 18446744073709551616) (hI : BitsAt w ao c I) (hi : I.length ≤ 17592186043904) (hJ : BitsAt w bo d J) (hj : J.length ≤ 17592186043904) (hT : Tab w) :
    Calls Tryz.prog 3 #[.int .u64 a, .slice ao I.length c, .slice bo J.length d] w fun r w' => r = .returned (.bool true) ∧ Below w.heap.size w w' := by
  have C3 := fun w' => lfits_any ao bo I.length J.length c d w'
  have C4 := fun w' => lfits_any ao ao I.length I.length c c w'
  by_cases hg : I.length ≤ 64 ∧ I.length = J.length
  · have hb : goB I J = true := decide_eq_true hg
    rw [if_pos hg] at C3
    rw [if_pos ⟨hg.1, rfl⟩] at C4
    refine vectorAxpys_of a ao bo c d I J (axL a I J) (tmL a I) 0 0 w hI hJ hi hj hT (.inl ⟨rfl, rfl, axL_len _ _ _, tmL_len _ _, hg.1⟩) ?_ ?_ C3 C4 ?_ ?_
    · intro w' po pc qo qc ht hp hq
      refine (vAxpy_ok po qo a pc qc I J w' ha hp hq ht hb).mono ?_
      rintro e w2 ⟨g, rfl, h1, h2, h3⟩
      rw [axL_len]
      exact ⟨_, _, rfl, .inr ⟨g, 0, rfl, h1⟩, h2, h3⟩
    · intro w' po pc ht hp
      refine (vTimes_ok po a pc I w' ha hp ht hg.1).mono ?_
      rintro e w2 ⟨g, rfl, h1, h2, h3⟩
      rw [tmL_len]
      exact ⟨_, _, rfl, .inr ⟨g, 0, rfl, h1⟩, h2, h3⟩
    · intro _ w' hb'
      rw [axL_len]
      exact r9axpy_any a ao c I bo d J w' ha (hI.below hb') (hJ.below hb') hg.2 hg.1
    · intro _ w' hb'
      rw [tmL_len]
      exact r9times_any a ao c I w' ha (hI.below hb') hg.1
  · have hb : goB I J = false := decide_eq_false hg
    rw [if_neg hg] at C3
    have no : ∀ w' po pc qo qc, Tab w' → BitsAt w' po pc I → BitsAt w' qo qc J → Calls Tryz.prog 8 #[.int .u64 a, .slice po I.length pc, .slice qo J.length qc] w' fun e w'' => ∃ so cs, e = .returned (.tuple #[.slice so ([] : List Int).length cs, .int .i64 3]) ∧ NewB w'.heap.size so [] ∧ BitsAt w'' so cs [] ∧ Below w'.heap.size w' w'' := by
      intro w' po pc qo qc _ _ _
      refine (vAxpy_no po qo a pc qc I J w' hb).mono ?_
      rintro e w2 ⟨rfl, h3⟩
      exact ⟨none, 0, rfl, .inl rfl, ⟨Nat.le_refl _, by simp, .inl rfl⟩, h3⟩
    by_cases h64 : I.length ≤ 64
    · rw [if_pos ⟨h64, rfl⟩] at C4
      refine vectorAxpys_of a ao bo c d I J [] (tmL a I) 3 0 w hI hJ hi hj hT (.inr (.inl ⟨rfl, rfl, rfl, tmL_len _ _, h64⟩)) no ?_ C3 C4 (fun h => by omega) ?_
      · intro w' po pc ht hp
        refine (vTimes_ok po a pc I w' ha hp ht h64).mono ?_
        rintro e w2 ⟨g, rfl, h1, h2, h3⟩
        rw [tmL_len]
        exact ⟨_, _, rfl, .inr ⟨g, 0, rfl, h1⟩, h2, h3⟩
      · intro _ w' hb'
        rw [tmL_len]
        exact r9times_any a ao c I w' ha (hI.below hb') h64
    · rw [if_neg (fun h => h64 h.1)] at C4
      refine vectorAxpys_of a ao bo c d I J [] [] 3 3 w hI hJ hi hj hT (.inr (.inr ⟨rfl, rfl, rfl, rfl⟩)) no ?_ C3 C4 (fun h => by omega) (fun h => by omega)
      intro w' po pc _ _
      refine (vTimes_no po a I.length pc w' (by omega)).mono ?_
      rintro e w2 ⟨rfl, h3⟩
      exact ⟨none, 0, rfl, .inl rfl, ⟨Nat.le_refl _, by simp, .inl rfl⟩, h3⟩

end Go.Proofs.YtlbggedahpnjgaaGreatDoor

/- A struct of a sign and limbs that came in, opened. -/
namespace Go.Proofs.YtlbggedahpnjgaaGreatDoor
open Go.ChangeShapes Go.WideShapes Go.ChangeAt Go.RowKit Go.Joins

theorem Tryz.own : ownKnob Tryz.prog.godebug = none := by kernel_rfl
theorem Tryz.laidOut : laidOutB Tryz.prog = true := by kernel_rfl
theorem Tryz.cellsW : Tryz.prog.cellsOf 43 = 2 := by kernel_rfl
theorem Tryz.cellsU : Tryz.prog.cellsOf 87 = 1 := by kernel_rfl
theorem Tryz.bytesU : Tryz.prog.bytesOf 87 = 4 := by kernel_rfl

theorem bounds_of_u32 {x : Int} (h : (Lit.int .u32 x).wf = true) : 0 ≤ x ∧ x < 4294967296 := by
  simp [Lit.wf, IntKind.min, IntKind.max, IntKind.signed, IntKind.bits] at h
  omega

theorem limbs_of_ints {W : World} {a : Addr} {len cap : Nat} {zs : List Int} (hl : len ≤ cap) (hz : zs.length = cap) (hc : ∀ i, i < zs.length → W.cell? (a.add i) = some (.int .u32 (zs.getD i 0))) (hw : ∀ n ∈ zs, (Lit.int .u32 n).wf = true) :
    LimbsAt W (some a) cap ((zs.take len).map Int.toNat) ∧ ((zs.take len).map Int.toNat).length = len := by
  have hlen : ((zs.take len).map Int.toNat).length = len := by simp; omega
  refine ⟨⟨by omega, ?_, ?_⟩, hlen⟩
  · intro x hx
    obtain ⟨y, hy, rfl⟩ := List.mem_map.1 hx
    have := bounds_of_u32 (hw y (List.mem_of_mem_take hy))
    omega
  · rcases Nat.eq_zero_or_pos len with rfl | hp
    · left; simp
    · right
      obtain ⟨b, off, spot⟩ := a
      have h0 := hc 0 (by omega)
      have hspot : spot = none := by simpa [Addr.add] using World.cell?_spot h0
      subst hspot
      have hb : b < W.heap.size := by
        have := World.block_lt_of_cell? W _ h0
        simpa [Addr.add] using this
      refine ⟨b, off, rfl, hb, fun i hi => ?_⟩
      have h1 := hc i (by omega)
      have h2 : (0 : Int) ≤ zs[i]'(by omega) := (bounds_of_u32 (hw _ (List.getElem_mem _))).1
      have h3 : (⟨b, off, none⟩ : Addr).add i = ⟨b, off + i, none⟩ := by simp [Addr.add]
      rw [h3] at h1
      rw [h1]
      have e : ((zs.take len).map Int.toNat)[i]?.getD 0 = (zs[i]'(by omega)).toNat := by
        rw [List.getElem?_map, List.getElem?_take, if_pos (by omega), List.getElem?_eq_getElem (by omega)]; rfl
      rw [e, List.getD_eq_getElem?_getD, List.getElem?_eq_getElem (by omega)]
      simp only [Option.getD_some, Option.some.injEq, Value.int.injEq, true_and]
      omega

set_option maxRecDepth 20000 in
/-- A number that came in: its sign, its limbs, where they lie; by the row's own reach they are not too many. -/
theorem open_whole {H : Type} {enc : TypeId × Value → H} {W : World} {base : Nat} {v : Value} {d : DataW H} {p : List MemPlace} (hval : Value.okWide Tryz.prog W .any base 43 v) (h : DataW.Trod enc Tryz.prog W 0 (fun _ => true) true 43 v d p)
    (hs : ∀ n ∈ d.weights Tryz.prog 43, n ≤ reachBytes) :
    ∃ neg ao cap L, v = .agg #[.bool neg, .slice ao L.length cap] ∧ LimbsAt W ao cap L ∧ L.length ≤ 35184372087808 := by
  obtain ⟨c0, c1, y0, y1, m, rfl, rfl, rfl, hy0, hy1⟩ := open_agg2 Tryz.underlying43 (by kernel_rfl) Tryz.cellsW hval h
  obtain ⟨neg, e0, rfl⟩ := DataW.trod_bool Tryz.underlying4 hy0
  simp at e0
  subst e0
  rcases open_ints Tryz.underlying41 Tryz.underlying87 Tryz.cellsU hy1 with ⟨hcs, _⟩ | ⟨a, len, cap, zs, hcs, _, hl, hm, hz, rfl, hcell, hwz⟩
  · simp at hcs
    subst hcs
    exact ⟨neg, none, 0, [], rfl, LimbsAt.nil _ _ _, by simp⟩
  · simp at hcs
    subst hcs
    obtain ⟨h1, h2⟩ := limbs_of_ints hl (by simpa using hz) hcell hwz
    refine ⟨neg, some a, cap, _, by rw [h2], h1, ?_⟩
    have hk := hs ((zs.length) * 4) (by
      simp only [DataW.weights, Tryz.underlying43, DataW.weightsEach, List.map, Tryz.underlying41, List.nil_append, List.append_nil, List.mem_cons, Tryz.bytesU, lits, List.length_map, List.length_take, List.length_drop]
      left
      omega)
    simp only [reachBytes] at hk
    rw [h2]
    have : zs.length = cap := by simpa using hz
    omega

end Go.Proofs.YtlbggedahpnjgaaGreatDoor

/- The bounds of an int or int64 that came in. -/
namespace Go.Proofs.YtlbggedahpnjgaaGreatDoor

theorem bounds_of_i64 {x : Int} (h : (Lit.int .i64 x).wf = true) : -9223372036854775808 ≤ x ∧ x ≤ 9223372036854775807 := by
  simp [Lit.wf, IntKind.min, IntKind.max, IntKind.signed, IntKind.bits] at h
  omega

end Go.Proofs.YtlbggedahpnjgaaGreatDoor

