/- Part 22 of the texts. -/
import Derived.Test.YtfnnbkclnflpfaaGreatDoorPartS21
import Derived.Test.YtfnnbkclnflpfaaGreatDoorPartS15
import Derived.Test.YtfnnbkclnflpfaaGreatDoorPartS16
import Derived.Test.YtfnnbkclnflpfaaGreatDoorPartS17
import Derived.Test.YtfnnbkclnflpfaaGreatDoorPartS05
import Derived.Test.YtfnnbkclnflpfaaGreatDoorPartS09
import Derived.Test.YtfnnbkclnflpfaaGreatDoorPartS10
import Derived.BigQuiet
import Derived.Test.YtfnnbkclnflpfaaGreatDoorPartS19
import Derived.Laws.BitsLemmas
import Derived.Deep.RegionHeld3
import Derived.Test.YtfnnbkclnflpfaaGreatDoorPartS18
import Derived.Test.YtfnnbkclnflpfaaGreatDoorPartS14
import Derived.Test.YtfnnbkclnflpfaaGreatDoorPartS12
import Derived.OwnWalk
import Derived.Deep.AppendLies
/- The reference's Biggest, Finite, Norm, Tame. -/
namespace Go.Proofs.YtfnnbkclnflpfaaGreatDoor
open Go.RowKit
attribute [local go_sem ↓] Go.wp_at_zero Go.wp_at_succ

theorem fnK_down (I : List Int) : ∀ (m k : Nat), k ≤ m → fnK I m = true → fnK I k = true := by
  intro m
  induction m with
  | zero => intro k hk _; rw [show k = 0 by omega]; rfl
  | succ m ih =>
    intro k hk h
    have h' : (fnK I m && fFin (atB I m)) = true := h
    rw [Bool.and_eq_true] at h'
    by_cases e : k = m + 1
    · subst e; exact h
    · exact ih k (by omega) h'.1
end Go.Proofs.YtfnnbkclnflpfaaGreatDoor

/- The reference's Tame. -/
namespace Go.Proofs.YtfnnbkclnflpfaaGreatDoor
open Go.RowKit
attribute [local go_sem ↓] Go.wp_at_zero Go.wp_at_succ

/-- Is a number 0, or neither very great nor very small? -/
def tmB (K : Int) (x : Nat) : Bool := fFin x && (decide (fK x = 0) || decide (-K ≤ eX x ∧ eX x < K))
def tmK (K : Int) (I : List Int) : Nat → Bool
  | 0 => true
  | k + 1 => tmK K I k && tmB K (atB I k)
theorem tmK_down (K : Int) (I : List Int) : ∀ (m k : Nat), k ≤ m → tmK K I m = true → tmK K I k = true := by
  intro m
  induction m with
  | zero => intro k hk _; rw [show k = 0 by omega]; rfl
  | succ m ih =>
    intro k hk h
    have h' : (tmK K I m && tmB K (atB I m)) = true := h
    rw [Bool.and_eq_true] at h'
    by_cases e : k = m + 1
    · subst e; exact h
    · exact ih k (by omega) h'.1
theorem tmK_at (K : Int) (I : List Int) (n k : Nat) (hk : k < n) (h : tmK K I n = true) : tmB K (atB I k) = true := by
  have h2 : (tmK K I k && tmB K (atB I k)) = true := tmK_down K I n (k + 1) (by omega) h
  rw [Bool.and_eq_true] at h2
  exact h2.2
theorem tmK_no (K : Int) (I : List Int) (n k : Nat) (hk : k < n) (h : tmB K (atB I k) = false) : tmK K I n = false := by
  cases e : tmK K I n
  · rfl
  · rw [tmK_at K I n k hk e] at h
    cases h
theorem tmB_ways (K : Int) (x : Nat) : (fFin x = false ∧ tmB K x = false) ∨ (fFin x = true ∧ fK x = 0 ∧ tmB K x = true) ∨ (fFin x = true ∧ fK x ≠ 0 ∧ eX x < -K ∧ tmB K x = false) ∨ (fFin x = true ∧ fK x ≠ 0 ∧ -K ≤ eX x ∧ K ≤ eX x ∧ tmB K x = false) ∨ (fFin x = true ∧ fK x ≠ 0 ∧ -K ≤ eX x ∧ eX x < K ∧ tmB K x = true) := by
  unfold tmB
  cases hf : fFin x
  · exact .inl ⟨rfl, rfl⟩
  · right
    by_cases h0 : fK x = 0
    · left; exact ⟨rfl, h0, by rw [decide_eq_true h0]; rfl⟩
    · right
      rw [decide_eq_false h0]
      by_cases h1 : eX x < -K
      · left; exact ⟨rfl, h0, h1, by rw [decide_eq_false (by omega)]; rfl⟩
      · right
        by_cases h2 : K ≤ eX x
        · left; exact ⟨rfl, h0, by omega, h2, by rw [decide_eq_false (by omega)]; rfl⟩
        · right; exact ⟨rfl, h0, by omega, by omega, by rw [decide_eq_true (by omega)]; rfl⟩

set_option maxRecDepth 20000 in
set_option maxHeartbeats 8000000 in
theorem r9tame_any (ao : Option Addr) (c : Nat) (I : List Int) (K : Int) (w : World) (hI : BitsAt w ao c I) (hn : I.length ≤ 35184372088830) (hK : -5000 ≤ K ∧ K ≤ 5000) :
    Calls Tryz.prog 66 #[.slice ao I.length c, .int .i64 K] w fun e w' => e = .returned (.bool (tmK K I I.length)) ∧ Below w.heap.size w w' := by
  have HI := hide hI
  obtain ⟨n, hnn⟩ : ∃ n, I.length = n := ⟨_, rfl⟩
  rw [hnn] at hn ⊢
  have HN := hide hnn
  have hw : IntKind.i64.wrap (-K) = -K := by simp only [IntKind.wrap_i64]; omega
  clear hI hnn hK
  obtain ⟨v, hv⟩ : ∃ v, tmK K I n = v := ⟨_, rfl⟩
  rw [hv]
  have HV := hide hv
  clear hv
  go_enter Tryz.func66, Tryz.ntmps66
  go_wp2_with fail
  go_loopw [5] (fun i wr => ∃ k : Nat, k ≤ n ∧ i = .int .i64 k ∧ Hid (tmK K I k = true) ∧ Hid (Below w.heap.size w wr)) (fun i _ => n - (intOf i).toNat)
  case atStart => exact ⟨0, Nat.zero_le _, rfl, rfl, Below.refl _ _⟩
  case round =>
    obtain ⟨k, hk, rfl, hq, hB⟩ := hrel
    by_cases hlt : k < n
    · have hkI : (k : Int) < (n : Int) := by omega
      obtain ⟨b, off, hao, hb, hc⟩ := ((unhide HI).below hB.out).ne (by rw [unhide HN]; omega)
      have hck := hide (hc k (by rw [unhide HN]; exact hlt))
      have x64 := (unhide HI).lt k
      have C1 := hide (fun w' => rfinite_any (atB I k) w' x64)
      have C2 := hide (fun w' => rkind_any (atB I k) w' x64)
      have C3 := hide (fun w' => r8exp_any (atB I k) w' x64)
      have eV : Hid (tmK K I (k + 1) = (tmK K I k && tmB K (atB I k))) := rfl
      have eF := hide (fun h => tmK_no K I n k hlt h)
      have WY := hide (tmB_ways K (atB I k))
      subst hao
      clear hc x64
      generalize tmB K (atB I k) = tb at *
      generalize eX (atB I k) = ex at *
      generalize fK (atB I k) = kd at *
      generalize fFin (atB I k) = ff at *
      generalize atB I k = x at *
      rcases unhide WY with ⟨rfl, rfl⟩ | ⟨rfl, rfl, rfl⟩ | ⟨rfl, g0, g1, rfl⟩ | ⟨rfl, g0, g1, g2, rfl⟩ | ⟨rfl, g0, g1, g2, rfl⟩
      · have hv2 := (unhide HV).symm.trans (unhide eF rfl)
        subst hv2
        clear WY eF
        have hc0 := unhide hck
        go_wp2_with fail
        refine (unhide C1 _).mono ?_
        rintro e w2 ⟨rfl, rfl⟩
        clear C1 C2 C3
        go_wp2_with fail
        exact bodyPost_ret (v := .bool false) (by simp [results, Tryz.results66, go_sem]) rfl ⟨rfl, hB.out⟩
      · clear WY eF
        have hc0 := unhide hck
        go_wp2_with fail
        refine (unhide C1 _).mono ?_
        rintro e w2 ⟨rfl, rfl⟩
        go_wp2_with fail
        refine (unhide C2 _).mono ?_
        rintro e w2 ⟨rfl, rfl⟩
        clear C1 C2 C3
        go_wp2_with fail
        go_round
        case rel => exact ⟨k + 1, by omega, by go_num, by unfold Hid; rw [eV.out, hq.out]; rfl, hB⟩
        case measure => simp [intOf]; omega
      · have hv2 := (unhide HV).symm.trans (unhide eF rfl)
        subst hv2
        clear WY eF
        have hc0 := unhide hck
        have g0' : (kd == 0) = false := by rw [beq_eq_false_iff_ne]; exact g0
        go_wp2_with fail
        refine (unhide C1 _).mono ?_
        rintro e w2 ⟨rfl, rfl⟩
        go_wp2_with fail
        refine (unhide C2 _).mono ?_
        rintro e w2 ⟨rfl, rfl⟩
        go_wp2_with fail
        refine (unhide C3 _).mono ?_
        rintro e w2 ⟨rfl, hb2⟩
        have B2 : Hid (Below w.heap.size w w2) := hB.out.trans (hb2.mono hB.out.size)
        clear C1 C2 C3 hb2
        go_wp2_with fail
        exact bodyPost_ret (v := .bool false) (by simp [results, Tryz.results66, go_sem]) rfl ⟨rfl, B2.out⟩
      · have hv2 := (unhide HV).symm.trans (unhide eF rfl)
        subst hv2
        clear WY eF
        have hc0 := unhide hck
        have HC := hck
        have g0' : (kd == 0) = false := by rw [beq_eq_false_iff_ne]; exact g0
        go_wp2_with fail
        refine (unhide C1 _).mono ?_
        rintro e w2 ⟨rfl, rfl⟩
        go_wp2_with fail
        refine (unhide C2 _).mono ?_
        rintro e w2 ⟨rfl, rfl⟩
        go_wp2_with fail
        refine (unhide C3 _).mono ?_
        rintro e w2 ⟨rfl, hb2⟩
        have hc2 := cell_keep (unhide HC) hb2
        have B2 : Hid (Below w.heap.size w w2) := hB.out.trans (hb2.mono hB.out.size)
        clear C1 C2 hb2 hc0
        go_wp2_with fail
        refine (unhide C3 _).mono ?_
        rintro e w3 ⟨rfl, hb3⟩
        have B3 : Hid (Below w.heap.size w w3) := B2.out.trans (hb3.mono B2.out.size)
        clear C3 hb3
        go_wp2_with fail
        exact bodyPost_ret (v := .bool false) (by simp [results, Tryz.results66, go_sem]) rfl ⟨rfl, B3.out⟩
      · clear WY eF
        have hc0 := unhide hck
        have HC := hck
        have g0' : (kd == 0) = false := by rw [beq_eq_false_iff_ne]; exact g0
        go_wp2_with fail
        refine (unhide C1 _).mono ?_
        rintro e w2 ⟨rfl, rfl⟩
        go_wp2_with fail
        refine (unhide C2 _).mono ?_
        rintro e w2 ⟨rfl, rfl⟩
        go_wp2_with fail
        refine (unhide C3 _).mono ?_
        rintro e w2 ⟨rfl, hb2⟩
        have hc2 := cell_keep (unhide HC) hb2
        have B2 : Hid (Below w.heap.size w w2) := hB.out.trans (hb2.mono hB.out.size)
        clear C1 C2 hb2 hc0
        go_wp2_with fail
        refine (unhide C3 _).mono ?_
        rintro e w3 ⟨rfl, hb3⟩
        have B3 : Hid (Below w.heap.size w w3) := B2.out.trans (hb3.mono B2.out.size)
        clear C3 hb3
        go_wp2_with fail
        go_round
        case rel => exact ⟨k + 1, by omega, by go_num, by unfold Hid; rw [eV.out, hq.out]; rfl, B3⟩
        case measure => simp [intOf]; omega
    · have hkk : k = n := by omega
      subst hkk
      have e2 := (unhide HV).symm.trans hq.out
      subst e2
      go_wp2_with fail
      exact bodyPost_ret (v := .bool true) (by simp [results, Tryz.results66, go_sem]) rfl ⟨rfl, hB.out⟩

end Go.Proofs.YtfnnbkclnflpfaaGreatDoor

/- Exact numbers at a level: the reference's values, products, powers of two. -/
namespace Go.Proofs.YtfnnbkclnflpfaaGreatDoor
open Go.RowKit

/-- The number z times 2^lo. -/
def IsLv (w : World) (v : Value) (lo z : Int) : Prop := IsDy w v (oM z) (oE z lo)
theorem IsLv.below {w w' : World} {v : Value} {lo z : Int} (h : IsLv w v lo z) (hb : Below w.heap.size w w') : IsLv w' v lo z := IsDy.below h hb
theorem IsLv.zero (w : World) (lo : Int) : IsLv w (.agg #[.bool false, .slice none 0 0, .int .i64 0]) lo 0 := by
  unfold IsLv
  rw [oM_zero, oE_zero]
  exact IsDy.zero w none 0
/-- The same number at a lower level. -/
theorem IsLv.lower {w : World} {v : Value} {lo z : Int} (h : IsLv w v lo z) (k : Nat) : IsLv w v (lo - k) (z * 2 ^ k) := by
  unfold IsLv
  have s := oM_scale z k (lo - k)
  rw [show lo - (k : Int) + k = lo by omega] at s
  rw [s.1, s.2]
  exact h
end Go.Proofs.YtfnnbkclnflpfaaGreatDoor

/- The reference's Near and Squares, at a level. -/
namespace Go.Proofs.YtfnnbkclnflpfaaGreatDoor
open Go.RowKit
attribute [local go_sem ↓] Go.wp_at_zero Go.wp_at_succ
theorem Lvl.more {lo : Int} {W W' : Nat} {z : Int} (h : Lvl lo W z) (hW : W ≤ W') (h1 : lo + W' ≤ 16384) (h2 : W' ≤ 16384) : Lvl lo W' z :=
  ⟨Nat.lt_of_lt_of_le h.1 (Nat.pow_le_pow_right (by decide) hW), h.2.1, h1, h2⟩
theorem Lvl.at {lo lo' : Int} {W : Nat} {z : Int} (h : Lvl lo W z) (h1 : -16384 ≤ lo') (h2 : lo' + W ≤ 16384) : Lvl lo' W z := ⟨h.1, h1, h2, h.2.2.2⟩

end Go.Proofs.YtfnnbkclnflpfaaGreatDoor

/- Lists of bits that a call itself makes; the reference's Times and Axpy. -/
namespace Go.Proofs.YtfnnbkclnflpfaaGreatDoor
open Go.RowKit
attribute [local go_sem ↓] Go.wp_at_zero Go.wp_at_succ

theorem infoBits : (Tryz.prog.info? 52).map (fun i => (i.zero, i.size, i.bytes)) = some (some (.int .u64 0), 1, 8) := by kernel_rfl

/-- v is a list S of the call's own. -/
def OwnB (base : Nat) (w : World) (v : Value) (S : List Nat) : Prop := w.ownsRow base 52 1 v S.length (S.map bitV) ∧ ∀ x ∈ S, x < 18446744073709551616
theorem OwnB.below {base : Nat} {w w' : World} {v : Value} {S : List Nat} (h : OwnB base w v S) (hb : Below w.heap.size w w') : OwnB base w' v S :=
  ⟨h.1.kept (row := none) ⟨hb.os, hb.tape, hb.output, hb.size, fun k hk _ => hb.block k hk⟩ (by cases hv : v.ownBlock <;> simp), h.2⟩
theorem OwnB.bits {base : Nat} {w : World} {v : Value} {S : List Nat} (h : OwnB base w v S) : ∃ ao cap, v = .slice ao S.length cap ∧ BitsAt w ao cap (S.map (fun x : Nat => (x : Int))) := by
  have hl : (S.map bitV).length = S.length := by simp
  have hf : ∀ x ∈ S.map (fun x : Nat => (x : Int)), 0 ≤ x ∧ x ≤ 18446744073709551615 := by
    intro x hx
    obtain ⟨y, hy, rfl⟩ := List.mem_map.1 hx
    have := h.2 y hy
    omega
  rcases h.1.2 with ⟨hv, h0⟩ | ⟨g, cap, cur, hv, hg, hh, hc, hm, hs, ht⟩
  · have : S = [] := List.length_eq_zero_iff.1 (by omega)
    subst this
    exact ⟨none, 0, hv, ⟨by simp, by simp, .inl rfl⟩⟩
  · refine ⟨some ⟨g, 0, none⟩, cap, hv, ⟨by simp; omega, hf, .inr ⟨g, 0, rfl, (Array.getElem?_eq_some_iff.1 hh).1, fun i hi => ?_⟩⟩⟩
    have hi' : i < S.length := by simpa using hi
    have q : (S.map bitV)[i]? = some (.int .u64 ((S[i] : Nat) : Int)) := by
      rw [List.getElem?_map, List.getElem?_eq_getElem hi']; rfl
    rw [← ht, List.getElem?_take, if_pos (by omega)] at q
    rw [cell_of_row w g _ _ _ _ hh, Nat.zero_add]
    have e : (S.map (fun x : Nat => (x : Int)))[i]?.getD 0 = ((S[i] : Nat) : Int) := by simp [hi']
    rw [e]
    simpa using q
theorem OwnB.nil (w : World) (base : Nat) (h : base ≤ w.heap.size) : OwnB base (w.alloc (.cells #[] 52)) (.slice (some ⟨w.heap.size, 0, none⟩) 0 0) [] :=
  ⟨World.ownsRow_made w #[] 0 h (by simp [maxLen]) (by simp), by simp⟩
theorem OwnB.snoc {base : Nat} {w : World} {v : Value} {S : List Nat} {x n : Nat} (hn : n = S.length) (h : w.ownsRow base 52 1 v (n + 1) (S.map bitV ++ [.int .u64 (x : Int)])) (hS : ∀ x ∈ S, x < 18446744073709551616) (hx : x < 18446744073709551616) : OwnB base w v (S ++ [x]) := by
  subst hn
  refine ⟨by simpa [bitV] using h, fun y hy => ?_⟩
  rcases List.mem_append.1 hy with h1 | h1
  · exact hS y h1
  · simp at h1; subst h1; exact hx

end Go.Proofs.YtfnnbkclnflpfaaGreatDoor

