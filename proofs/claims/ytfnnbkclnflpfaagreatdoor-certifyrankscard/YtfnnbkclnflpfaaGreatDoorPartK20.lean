/- Part 20 of the texts. -/
import Derived.Test.YtfnnbkclnflpfaaGreatDoorPartK01
import Derived.Test.YtfnnbkclnflpfaaGreatDoorPartK03
import Derived.Deep.OwnRows
import Derived.Deep.RegionHeld3
import Derived.Test.YtfnnbkclnflpfaaGreatDoorPartK19
import Derived.Test.YtfnnbkclnflpfaaGreatDoorPartK17
import Derived.Test.YtfnnbkclnflpfaaGreatDoorPartK16
import Derived.Test.YtfnnbkclnflpfaaGreatDoorPartK18
import Derived.Test.YtfnnbkclnflpfaaGreatDoorPartK09
import Derived.Laws.Cover2
import Derived.Laws.Externs
import Derived.Test.YtfnnbkclnflpfaaGreatDoorPartK05
import Derived.Laws.FloatArith
import Derived.Laws.BitsAllLaws
import Derived.Test.YtfnnbkclnflpfaaGreatDoorPartK11
import Derived.Test.YtfnnbkclnflpfaaGreatDoorPartK10
import Derived.BigQuiet
import Derived.Test.YtfnnbkclnflpfaaGreatDoorPartK12
import Derived.Laws.BitsLemmas
/- Package vector: gather and each, of any function value. -/
namespace Go.Proofs.YtfnnbkclnflpfaaGreatDoor
open Go.RowKit

/-- A row of bits in a block of its own. -/
def bitV (x : Nat) : Value := .int .u64 (x : Int)
def RowB (w : World) (g : Nat) (S : List Nat) : Prop := w.heap[g]? = some (.cells (S.map bitV).toArray 52 (0, 0))

theorem RowB.cell {w : World} {g : Nat} {S : List Nat} (h : RowB w g S) (j : Nat) (hj : j < S.length) : w.cell? ⟨g, j, none⟩ = some (.int .u64 ((S[j]?.getD 0 : Nat) : Int)) := by
  rw [cell_of_row w g j _ _ _ h]
  simp [bitV, hj]
theorem RowB.free {w : World} {g : Nat} {S : List Nat} (h : RowB w g S) (j : Nat) : w.frozen? ⟨g, j, none⟩ = false := frozen_of_row w g j _ _ h
theorem RowB.set {w : World} {g : Nat} {S : List Nat} (h : RowB w g S) (j x : Nat) : RowB (w.setCell ⟨g, j, none⟩ (.int .u64 (x : Int))) g (S.set j x) := by
  unfold RowB
  rw [heap_setCell_same w g j _ _ _ h]
  simp [bitV, List.map_set]
theorem RowB.lt {w : World} {g : Nat} {S : List Nat} (h : RowB w g S) : g < w.heap.size := (Array.getElem?_eq_some_iff.1 h).1
theorem RowB.below {w w' : World} {g : Nat} {S : List Nat} (h : RowB w g S) {B : Nat} (hb : Below B w w') (hg : g < B) : RowB w' g S := by
  unfold RowB; rw [hb.block g hg]; exact h
theorem RowB.made (w : World) (n : Nat) : RowB (w.alloc (.cells (madeCells #[.int .u64 0] n) 52)) w.heap.size (List.replicate n 0) := by
  unfold RowB
  rw [heap_alloc_new w _]
  have : madeCells #[Value.int .u64 0] n = ((List.replicate n 0).map bitV).toArray := by
    apply Array.toList_inj.1
    refine List.ext_getElem (by simp [madeCells]) fun i h1 h2 => ?_
    simp [madeCells, bitV, Nat.mod_one]
  rw [this]

end Go.Proofs.YtfnnbkclnflpfaaGreatDoor

/- Package vector: the functions that gather and each are handed, by letters. -/
namespace Go.Proofs.YtfnnbkclnflpfaaGreatDoor
open Go.RowKit
attribute [local go_sem ↓] Go.wp_at_zero Go.wp_at_succ

theorem cell_keep {w w' : World} {p : Addr} {v : Value} (h : w.cell? p = some v) (hb : Below w.heap.size w w') : w'.cell? p = some v := by
  rw [hb.cell (World.block_lt_of_cell? w _ h)]; exact h

end Go.Proofs.YtfnnbkclnflpfaaGreatDoor

/- Contracts of vector's dot, Dot, Axpy, Times, Biggest, Finite. -/
namespace Go.Proofs.YtfnnbkclnflpfaaGreatDoor
open Go.RowKit
attribute [local go_sem ↓] Go.wp_at_zero Go.wp_at_succ
theorem size_alloc9 (w : World) (o : Obj) : (w.alloc o).heap.size = w.heap.size + 1 := by simp
theorem below_alloc9 (w : World) (o : Obj) : Below w.heap.size w (w.alloc o) := (Below.refl _ _).alloc (Nat.le_refl _) o
theorem BitsAt.lt {w : World} {ao : Option Addr} {cap : Nat} {I : List Int} (h : BitsAt w ao cap I) (j : Nat) : atB I j < 18446744073709551616 := (h.wf j).2

def fnK (I : List Int) : Nat → Bool
  | 0 => true
  | k + 1 => fnK I k && fFin (atB I k)
theorem RowB.bits {w : World} {g : Nat} {S : List Nat} (h : RowB w g S) (hf : ∀ x ∈ S, x < 18446744073709551616) : BitsAt w (some ⟨g, 0, none⟩) S.length (S.map (fun x : Nat => (x : Int))) := by
  refine ⟨by simp, ?_, .inr ⟨g, 0, rfl, h.lt, fun i hi => ?_⟩⟩
  · intro x hx
    obtain ⟨y, hy, rfl⟩ := List.mem_map.1 hx
    have := hf y hy
    omega
  · have hi' : i < S.length := by simpa using hi
    rw [Nat.zero_add, h.cell i hi']
    simp [hi']
end Go.Proofs.YtfnnbkclnflpfaaGreatDoor

/- The reference's Biggest, Finite, Norm, Tame. -/
namespace Go.Proofs.YtfnnbkclnflpfaaGreatDoor
open Go.RowKit
attribute [local go_sem ↓] Go.wp_at_zero Go.wp_at_succ

theorem fnK_down (I : List Int) : ∀ (m k : Nat), k ≤ m → fnK I m = true → fnK I k = true := by
  intro m
  induction m with
  | zero => intro k hk _; rw [show k = 0 by omega]; rfl
  | succ m ih =>
    intro k hk h
    have h' : (fnK I m && fFin (atB I m)) = true := h
    rw [Bool.and_eq_true] at h'
    by_cases e : k = m + 1
    · subst e; exact h
    · exact ih k (by omega) h'.1
theorem fnK_no (I : List Int) (n k : Nat) (hk : k < n) (h : fFin (atB I k) = false) : fnK I n = false := by
  cases e : fnK I n
  · rfl
  · have h2 : (fnK I k && fFin (atB I k)) = true := fnK_down I n (k + 1) (by omega) e
    rw [h, Bool.and_false] at h2
    cases h2

set_option maxRecDepth 20000 in
set_option maxHeartbeats 4000000 in
theorem r9finite_any (ao : Option Addr) (c : Nat) (I : List Int) (w : World) (hI : BitsAt w ao c I) (hn : I.length ≤ 35184372088830) :
    Calls Tryz.prog 40 #[.slice ao I.length c] w fun e w' => e = .returned (.bool (fnK I I.length)) ∧ Below w.heap.size w w' := by
  have HI := hide hI
  obtain ⟨n, hnn⟩ : ∃ n, I.length = n := ⟨_, rfl⟩
  rw [hnn] at hn ⊢
  have HN := hide hnn
  clear hI hnn
  obtain ⟨v, hv⟩ : ∃ v, fnK I n = v := ⟨_, rfl⟩
  rw [hv]
  have HV := hide hv
  clear hv
  go_enter Tryz.func40, Tryz.ntmps40
  go_wp2_with fail
  go_loopw [3] (fun i wr => ∃ k : Nat, k ≤ n ∧ i = .int .i64 k ∧ Hid (fnK I k = true) ∧ Hid (Below w.heap.size w wr)) (fun i _ => n - (intOf i).toNat)
  case atStart => exact ⟨0, Nat.zero_le _, rfl, rfl, Below.refl _ _⟩
  case round =>
    obtain ⟨k, hk, rfl, hq, hB⟩ := hrel
    by_cases hlt : k < n
    · have hkI : (k : Int) < (n : Int) := by omega
      obtain ⟨b, off, hao, hb, hc⟩ := ((unhide HI).below hB.out).ne (by rw [unhide HN]; omega)
      have hck := hc k (by rw [unhide HN]; exact hlt)
      have C1 := hide (fun w' => rfinite_any (atB I k) w' ((unhide HI).lt k))
      have eV : Hid (fnK I (k + 1) = (fnK I k && fFin (atB I k))) := rfl
      have eF := hide (fun h => fnK_no I n k hlt h)
      subst hao
      clear hc
      generalize atB I k = x at *
      cases hf : fFin x
      · have e2 := hide ((unhide HV).symm.trans (unhide eF hf))
        rw [hf] at C1
        have hv2 := unhide e2
        subst hv2
        go_wp2_with fail
        refine (unhide C1 _).mono ?_
        rintro e w2 ⟨rfl, rfl⟩
        clear C1
        go_wp2_with fail
        exact bodyPost_ret (v := .bool false) (by simp [results, Tryz.results40, go_sem]) rfl ⟨rfl, hB.out⟩
      · rw [hf] at C1 eV
        go_wp2_with fail
        refine (unhide C1 _).mono ?_
        rintro e w2 ⟨rfl, rfl⟩
        clear C1
        go_wp2_with fail
        go_round
        case rel => exact ⟨k + 1, by omega, by go_num, by unfold Hid; rw [eV.out, hq.out]; rfl, hB⟩
        case measure => simp [intOf]; omega
    · have hkk : k = n := by omega
      subst hkk
      have e2 := (unhide HV).symm.trans hq.out
      subst e2
      go_wp2_with fail
      exact bodyPost_ret (v := .bool true) (by simp [results, Tryz.results40, go_sem]) rfl ⟨rfl, hB.out⟩

end Go.Proofs.YtfnnbkclnflpfaaGreatDoor

/- The reference's Tame. -/
namespace Go.Proofs.YtfnnbkclnflpfaaGreatDoor
open Go.RowKit
attribute [local go_sem ↓] Go.wp_at_zero Go.wp_at_succ

/-- Is a number 0, or neither very great nor very small? -/
def tmB (K : Int) (x : Nat) : Bool := fFin x && (decide (fK x = 0) || decide (-K ≤ eX x ∧ eX x < K))
def tmK (K : Int) (I : List Int) : Nat → Bool
  | 0 => true
  | k + 1 => tmK K I k && tmB K (atB I k)
theorem tmK_down (K : Int) (I : List Int) : ∀ (m k : Nat), k ≤ m → tmK K I m = true → tmK K I k = true := by
  intro m
  induction m with
  | zero => intro k hk _; rw [show k = 0 by omega]; rfl
  | succ m ih =>
    intro k hk h
    have h' : (tmK K I m && tmB K (atB I m)) = true := h
    rw [Bool.and_eq_true] at h'
    by_cases e : k = m + 1
    · subst e; exact h
    · exact ih k (by omega) h'.1
theorem tmK_at (K : Int) (I : List Int) (n k : Nat) (hk : k < n) (h : tmK K I n = true) : tmB K (atB I k) = true := by
  have h2 : (tmK K I k && tmB K (atB I k)) = true := tmK_down K I n (k + 1) (by omega) h
  rw [Bool.and_eq_true] at h2
  exact h2.2
theorem tmK_no (K : Int) (I : List Int) (n k : Nat) (hk : k < n) (h : tmB K (atB I k) = false) : tmK K I n = false := by
  cases e : tmK K I n
  · rfl
  · rw [tmK_at K I n k hk e] at h
    cases h
theorem tmB_ways (K : Int) (x : Nat) : (fFin x = false ∧ tmB K x = false) ∨ (fFin x = true ∧ fK x = 0 ∧ tmB K x = true) ∨ (fFin x = true ∧ fK x ≠ 0 ∧ eX x < -K ∧ tmB K x = false) ∨ (fFin x = true ∧ fK x ≠ 0 ∧ -K ≤ eX x ∧ K ≤ eX x ∧ tmB K x = false) ∨ (fFin x = true ∧ fK x ≠ 0 ∧ -K ≤ eX x ∧ eX x < K ∧ tmB K x = true) := by
  unfold tmB
  cases hf : fFin x
  · exact .inl ⟨rfl, rfl⟩
  · right
    by_cases h0 : fK x = 0
    · left; exact ⟨rfl, h0, by rw [decide_eq_true h0]; rfl⟩
    · right
      rw [decide_eq_false h0]
      by_cases h1 : eX x < -K
      · left; exact ⟨rfl, h0, h1, by rw [decide_eq_false (by omega)]; rfl⟩
      · right
        by_cases h2 : K ≤ eX x
        · left; exact ⟨rfl, h0, by omega, h2, by rw [decide_eq_false (by omega)]; rfl⟩
        · right; exact ⟨rfl, h0, by omega, by omega, by rw [decide_eq_true (by omega)]; rfl⟩

set_option maxRecDepth 20000 in
set_option maxHeartbeats 8000000 in
theorem r9tame_any (ao : Option Addr) (c : Nat) (I : List Int) (K : Int) (w : World) (hI : BitsAt w ao c I) (hn : I.length ≤ 35184372088830) (hK : -5000 ≤ K ∧ K ≤ 5000) :
    Calls Tryz.prog 66 #[.slice ao I.length c, .int .i64 K] w fun e w' => e = .returned (.bool (tmK K I I.length)) ∧ Below w.heap.size w w' := by
  have HI := hide hI
  obtain ⟨n, hnn⟩ : ∃ n, I.length = n := ⟨_, rfl⟩
  rw [hnn] at hn ⊢
  have HN := hide hnn
  have hw : IntKind.i64.wrap (-K) = -K := by simp only [IntKind.wrap_i64]; omega
  clear hI hnn hK
  obtain ⟨v, hv⟩ : ∃ v, tmK K I n = v := ⟨_, rfl⟩
  rw [hv]
  have HV := hide hv
  clear hv
  go_enter Tryz.func66, Tryz.ntmps66
  go_wp2_with fail
  go_loopw [5] (fun i wr => ∃ k : Nat, k ≤ n ∧ i = .int .i64 k ∧ Hid (tmK K I k = true) ∧ Hid (Below w.heap.size w wr)) (fun i _ => n - (intOf i).toNat)
  case atStart => exact ⟨0, Nat.zero_le _, rfl, rfl, Below.refl _ _⟩
  case round =>
    obtain ⟨k, hk, rfl, hq, hB⟩ := hrel
    by_cases hlt : k < n
    · have hkI : (k : Int) < (n : Int) := by omega
      obtain ⟨b, off, hao, hb, hc⟩ := ((unhide HI).below hB.out).ne (by rw [unhide HN]; omega)
      have hck := hide (hc k (by rw [unhide HN]; exact hlt))
      have x64 := (unhide HI).lt k
      have C1 := hide (fun w' => rfinite_any (atB I k) w' x64)
      have C2 := hide (fun w' => rkind_any (atB I k) w' x64)
      have C3 := hide (fun w' => r8exp_any (atB I k) w' x64)
      have eV : Hid (tmK K I (k + 1) = (tmK K I k && tmB K (atB I k))) := rfl
      have eF := hide (fun h => tmK_no K I n k hlt h)
      have WY := hide (tmB_ways K (atB I k))
      subst hao
      clear hc x64
      generalize tmB K (atB I k) = tb at *
      generalize eX (atB I k) = ex at *
      generalize fK (atB I k) = kd at *
      generalize fFin (atB I k) = ff at *
      generalize atB I k = x at *
      rcases unhide WY with ⟨rfl, rfl⟩ | ⟨rfl, rfl, rfl⟩ | ⟨rfl, g0, g1, rfl⟩ | ⟨rfl, g0, g1, g2, rfl⟩ | ⟨rfl, g0, g1, g2, rfl⟩
      · have hv2 := (unhide HV).symm.trans (unhide eF rfl)
        subst hv2
        clear WY eF
        have hc0 := unhide hck
        go_wp2_with fail
        refine (unhide C1 _).mono ?_
        rintro e w2 ⟨rfl, rfl⟩
        clear C1 C2 C3
        go_wp2_with fail
        exact bodyPost_ret (v := .bool false) (by simp [results, Tryz.results66, go_sem]) rfl ⟨rfl, hB.out⟩
      · clear WY eF
        have hc0 := unhide hck
        go_wp2_with fail
        refine (unhide C1 _).mono ?_
        rintro e w2 ⟨rfl, rfl⟩
        go_wp2_with fail
        refine (unhide C2 _).mono ?_
        rintro e w2 ⟨rfl, rfl⟩
        clear C1 C2 C3
        go_wp2_with fail
        go_round
        case rel => exact ⟨k + 1, by omega, by go_num, by unfold Hid; rw [eV.out, hq.out]; rfl, hB⟩
        case measure => simp [intOf]; omega
      · have hv2 := (unhide HV).symm.trans (unhide eF rfl)
        subst hv2
        clear WY eF
        have hc0 := unhide hck
        have g0' : (kd == 0) = false := by rw [beq_eq_false_iff_ne]; exact g0
        go_wp2_with fail
        refine (unhide C1 _).mono ?_
        rintro e w2 ⟨rfl, rfl⟩
        go_wp2_with fail
        refine (unhide C2 _).mono ?_
        rintro e w2 ⟨rfl, rfl⟩
        go_wp2_with fail
        refine (unhide C3 _).mono ?_
        rintro e w2 ⟨rfl, hb2⟩
        have B2 : Hid (Below w.heap.size w w2) := hB.out.trans (hb2.mono hB.out.size)
        clear C1 C2 C3 hb2
        go_wp2_with fail
        exact bodyPost_ret (v := .bool false) (by simp [results, Tryz.results66, go_sem]) rfl ⟨rfl, B2.out⟩
      · have hv2 := (unhide HV).symm.trans (unhide eF rfl)
        subst hv2
        clear WY eF
        have hc0 := unhide hck
        have HC := hck
        have g0' : (kd == 0) = false := by rw [beq_eq_false_iff_ne]; exact g0
        go_wp2_with fail
        refine (unhide C1 _).mono ?_
        rintro e w2 ⟨rfl, rfl⟩
        go_wp2_with fail
        refine (unhide C2 _).mono ?_
        rintro e w2 ⟨rfl, rfl⟩
        go_wp2_with fail
        refine (unhide C3 _).mono ?_
        rintro e w2 ⟨rfl, hb2⟩
        have hc2 := cell_keep (unhide HC) hb2
        have B2 : Hid (Below w.heap.size w w2) := hB.out.trans (hb2.mono hB.out.size)
        clear C1 C2 hb2 hc0
        go_wp2_with fail
        refine (unhide C3 _).mono ?_
        rintro e w3 ⟨rfl, hb3⟩
        have B3 : Hid (Below w.heap.size w w3) := B2.out.trans (hb3.mono B2.out.size)
        clear C3 hb3
        go_wp2_with fail
        exact bodyPost_ret (v := .bool false) (by simp [results, Tryz.results66, go_sem]) rfl ⟨rfl, B3.out⟩
      · clear WY eF
        have hc0 := unhide hck
        have HC := hck
        have g0' : (kd == 0) = false := by rw [beq_eq_false_iff_ne]; exact g0
        go_wp2_with fail
        refine (unhide C1 _).mono ?_
        rintro e w2 ⟨rfl, rfl⟩
        go_wp2_with fail
        refine (unhide C2 _).mono ?_
        rintro e w2 ⟨rfl, rfl⟩
        go_wp2_with fail
        refine (unhide C3 _).mono ?_
        rintro e w2 ⟨rfl, hb2⟩
        have hc2 := cell_keep (unhide HC) hb2
        have B2 : Hid (Below w.heap.size w w2) := hB.out.trans (hb2.mono hB.out.size)
        clear C1 C2 hb2 hc0
        go_wp2_with fail
        refine (unhide C3 _).mono ?_
        rintro e w3 ⟨rfl, hb3⟩
        have B3 : Hid (Below w.heap.size w w3) := B2.out.trans (hb3.mono B2.out.size)
        clear C3 hb3
        go_wp2_with fail
        go_round
        case rel => exact ⟨k + 1, by omega, by go_num, by unfold Hid; rw [eV.out, hq.out]; rfl, B3⟩
        case measure => simp [intOf]; omega
    · have hkk : k = n := by omega
      subst hkk
      have e2 := (unhide HV).symm.trans hq.out
      subst e2
      go_wp2_with fail
      exact bodyPost_ret (v := .bool true) (by simp [results, Tryz.results66, go_sem]) rfl ⟨rfl, hB.out⟩

end Go.Proofs.YtfnnbkclnflpfaaGreatDoor

