/- Part 2 of the texts. -/
import Derived.Test.YtnpogpoknbgodaaPart01
import Derived.Test.YtnpogpoknbgodaaProg
import Derived.Outline
import Derived.BigQuiet
import Derived.Deep.QuietTactic
/- Numbers and stores elsewhere. -/
namespace Go.Proofs.Ytnpogpoknbgodaa
open Go.RowKit

theorem cell_setCell_other (w : World) (a p : Addr) (u : Value) (h : a.block ≠ p.block) : (w.setCell p u).cell? a = w.cell? a :=
  World.cell?_of_block (Below.heap_setCell w p u a.block h)

theorem LimbsAt.store {w : World} {ao : Option Addr} {cap B : Nat} {L : List Nat} (h : LimbsAt w ao cap L) (hn : NewAt B ao L) {p : Addr} (hp : p.block < B) (u : Value) : LimbsAt (w.setCell p u) ao cap L := by
  refine ⟨h.1, h.2.1, ?_⟩
  rcases h.2.2 with h0 | ⟨b, off, h1, h2, h3⟩
  · exact .inl h0
  · rcases hn with h0 | ⟨b', off', h1', h2'⟩
    · exact .inl h0
    · rw [h1] at h1'
      simp only [Option.some.injEq, Addr.mk.injEq] at h1'
      obtain ⟨rfl, rfl, _⟩ := h1'
      refine .inr ⟨b, off, h1, by simpa [World.setCell] using h2, fun i hi => ?_⟩
      rw [cell_setCell_other w _ p u (by simp; omega)]
      exact h3 i hi

/-- What a function of one number answers through its result's box: the number, in the world behind the two stores. -/
theorem IsNum.stored {B B' : Nat} {w : World} {n : Bool} {ao : Option Addr} {cap : Nat} {L : List Nat} {x : Int} (h : LimbsAt w ao cap L ∧ NewAt B ao L ∧ Canon L ∧ n = decide (x < 0) ∧ val L = x.natAbs ∧ L.length ≤ 35184372088832) {p q : Addr} (hp : p.block < B) (hq : q.block < B) (hB : B' ≤ B) (u u' : Value) :
    IsNum B' ((w.setCell p u).setCell q u') (.agg #[.bool n, .slice ao L.length cap]) x :=
  ⟨n, ao, cap, L, rfl, (h.1.store h.2.1 hp u).store h.2.1 hq u', h.2.1.mono hB, h.2.2⟩

end Go.Proofs.Ytnpogpoknbgodaa

/- Rows of numbers, as they lie in memory. -/
namespace Go.Proofs.Ytnpogpoknbgodaa
open Go.RowKit

/-- A number in memory: its sign, where its limbs lie, the limbs. -/
structure Nm where
  neg : Bool
  ao : Option Addr
  cap : Nat
  L : List Nat

/-- A row in memory: where its numbers lie, the numbers. -/
structure Rw where
  ao : Option Addr
  cap : Nat
  R : List Nm

def Nm.nil : Nm := ⟨false, none, 0, []⟩
def Rw.nil : Rw := ⟨none, 0, []⟩
def nmAt (R : List Nm) (k : Nat) : Nm := R[k]?.getD Nm.nil
def rwAt (M : List Rw) (i : Nat) : Rw := M[i]?.getD Rw.nil
def Nm.v (x : Nm) : Value := .agg #[.bool x.neg, .slice x.ao x.L.length x.cap]
def Rw.v (r : Rw) : Value := .slice r.ao r.R.length r.cap

/-- The numbers R lie at ao. -/
def NumsAt (w : World) (ao : Option Addr) (cap : Nat) (R : List Nm) : Prop :=
  R.length ≤ cap ∧ (∀ x ∈ R, LimbsAt w x.ao x.cap x.L) ∧ (R = [] ∨ ∃ b off, ao = some ⟨b, off, none⟩ ∧ b < w.heap.size ∧ ∀ k, k < R.length → w.cell? ⟨b, off + k * 2, none⟩ = some (.bool (nmAt R k).neg) ∧ w.cell? ⟨b, off + k * 2 + 1, none⟩ = some (.slice (nmAt R k).ao (nmAt R k).L.length (nmAt R k).cap))

/-- The rows M lie at ao. -/
def MatAt (w : World) (ao : Option Addr) (cap : Nat) (M : List Rw) : Prop :=
  M.length ≤ cap ∧ (∀ r ∈ M, NumsAt w r.ao r.cap r.R) ∧ (M = [] ∨ ∃ b off, ao = some ⟨b, off, none⟩ ∧ b < w.heap.size ∧ ∀ i, i < M.length → w.cell? ⟨b, off + i, none⟩ = some (rwAt M i).v)

theorem nmAt_mem {R : List Nm} {k : Nat} (h : k < R.length) : nmAt R k ∈ R := by
  unfold nmAt; rw [List.getElem?_eq_getElem h]; exact List.getElem_mem h
theorem rwAt_mem {M : List Rw} {i : Nat} (h : i < M.length) : rwAt M i ∈ M := by
  unfold rwAt; rw [List.getElem?_eq_getElem h]; exact List.getElem_mem h

theorem NumsAt.below {w w' : World} {ao : Option Addr} {cap : Nat} {R : List Nm} (h : NumsAt w ao cap R) (hb : Below w.heap.size w w') : NumsAt w' ao cap R := by
  refine ⟨h.1, fun x hx => (h.2.1 x hx).below hb, ?_⟩
  rcases h.2.2 with e | ⟨b, off, h1, h2, h3⟩
  · exact .inl e
  · refine .inr ⟨b, off, h1, Nat.lt_of_lt_of_le h2 hb.size, fun k hk => ?_⟩
    rw [hb.cell (p := ⟨b, off + k * 2, none⟩) h2, hb.cell (p := ⟨b, off + k * 2 + 1, none⟩) h2]
    exact h3 k hk

theorem MatAt.below {w w' : World} {ao : Option Addr} {cap : Nat} {M : List Rw} (h : MatAt w ao cap M) (hb : Below w.heap.size w w') : MatAt w' ao cap M := by
  refine ⟨h.1, fun r hr => (h.2.1 r hr).below hb, ?_⟩
  rcases h.2.2 with e | ⟨b, off, h1, h2, h3⟩
  · exact .inl e
  · refine .inr ⟨b, off, h1, Nat.lt_of_lt_of_le h2 hb.size, fun i hi => ?_⟩
    rw [hb.cell (p := ⟨b, off + i, none⟩) h2]
    exact h3 i hi

theorem NumsAt.limbs {w : World} {ao : Option Addr} {cap : Nat} {R : List Nm} (h : NumsAt w ao cap R) {k : Nat} (hk : k < R.length) : LimbsAt w (nmAt R k).ao (nmAt R k).cap (nmAt R k).L := h.2.1 _ (nmAt_mem hk)
theorem MatAt.nums {w : World} {ao : Option Addr} {cap : Nat} {M : List Rw} (h : MatAt w ao cap M) {i : Nat} (hi : i < M.length) : NumsAt w (rwAt M i).ao (rwAt M i).cap (rwAt M i).R := h.2.1 _ (rwAt_mem hi)

theorem NumsAt.ne {w : World} {ao : Option Addr} {cap : Nat} {R : List Nm} (h : NumsAt w ao cap R) (h0 : 0 < R.length) : ∃ b off, ao = some ⟨b, off, none⟩ ∧ b < w.heap.size ∧ ∀ k, k < R.length → w.cell? ⟨b, off + k * 2, none⟩ = some (.bool (nmAt R k).neg) ∧ w.cell? ⟨b, off + k * 2 + 1, none⟩ = some (.slice (nmAt R k).ao (nmAt R k).L.length (nmAt R k).cap) := by
  rcases h.2.2 with e | e
  · rw [e] at h0; simp at h0
  · exact e
theorem MatAt.ne {w : World} {ao : Option Addr} {cap : Nat} {M : List Rw} (h : MatAt w ao cap M) (h0 : 0 < M.length) : ∃ b off, ao = some ⟨b, off, none⟩ ∧ b < w.heap.size ∧ ∀ i, i < M.length → w.cell? ⟨b, off + i, none⟩ = some (.slice (rwAt M i).ao (rwAt M i).R.length (rwAt M i).cap) := by
  rcases h.2.2 with e | e
  · rw [e] at h0; simp at h0
  · exact e

/-- What the rows say. -/
def entry (M : List Rw) (i k : Nat) : Nm := nmAt (rwAt M i).R k
def width (M : List Rw) : Nat := (rwAt M 0).R.length

end Go.Proofs.Ytnpogpoknbgodaa

namespace Go.Proofs.Ytnpogpoknbgodaa
open Go.RowKit

def rightB (neg : Bool) (L : List Nat) : Bool := decide (L.length ≤ 512) && !(decide (L.length = 0) && neg) && (decide (L.length = 0) || !decide (L[L.length - 1]?.getD 0 = 0))
/-- What Check says. -/
def chkE (neg : Bool) (L : List Nat) : Int := if rightB neg L then 0 else 1

set_option maxHeartbeats 400000 in
theorem check_any (neg : Bool) (ao : Option Addr) (cap : Nat) (L : List Nat) (w : World) (h : LimbsAt w ao cap L) (hl : L.length ≤ 35184372088830) :
    Calls Try.prog 35 #[.agg #[.bool neg, .slice ao L.length cap]] w fun e w' => e = .returned (.int .i64 (chkE neg L)) ∧ Below w.heap.size w w' := by
  rcases h.2.2 with h0 | ⟨b, off, rfl, hb, hc⟩
  · subst h0
    cases neg
    all_goals
      go_enter Try.func35, Try.ntmps35
      go_wp2
      go_ret
      exact ⟨ret_int (by simp [chkE, rightB]), (Below.refl _ _).alloc (Nat.le_refl _) _⟩
  · by_cases h0 : L = []
    · subst h0
      cases neg
      all_goals
        go_enter Try.func35, Try.ntmps35
        go_wp2
        go_ret
        exact ⟨ret_int (by simp [chkE, rightB]), (Below.refl _ _).alloc (Nat.le_refl _) _⟩
    · have hp : 0 < L.length := List.length_pos_iff.2 h0
      have hc1 := hc (L.length - 1) (by omega)
      have hx := h.2.1
      clear h h0 hc
      have HE : Hid (chkE neg L = if L.length ≤ 512 ∧ (L[L.length - 1]?.getD 0) ≠ 0 then 0 else 1) := by
        have e0 : L ≠ [] := by intro e; simp [e] at hp
        unfold Hid; simp [chkE, rightB, e0]
      generalize hn : L.length = n at *
      generalize L[n - 1]?.getD 0 = x at *
      generalize chkE neg L = ce at *
      clear hn hx
      have hne : ((n : Int) == 0) = false := by simp; omega
      have hgt : (0 : Int) < (n : Int) := by omega
      by_cases h5 : n ≤ 512
      · by_cases hx0 : x = 0
        · subst hx0
          go_enter Try.func35, Try.ntmps35
          go_wp2
          go_ret
          exact ⟨ret_int (by rw [HE.out]; simp), (Below.refl _ _).alloc (Nat.le_refl _) _⟩
        · have hx1 : ((x : Int) == 0) = false := by simp; omega
          go_enter Try.func35, Try.ntmps35
          go_wp2
          go_ret
          exact ⟨ret_int (by rw [HE.out]; simp [h5, hx0]), (Below.refl _ _).alloc (Nat.le_refl _) _⟩
      · go_enter Try.func35, Try.ntmps35
        go_wp2
        go_ret
        exact ⟨ret_int (by rw [HE.out]; simp [h5]), (Below.refl _ _).alloc (Nat.le_refl _) _⟩

set_option maxHeartbeats 400000 in
theorem right_any (neg : Bool) (ao : Option Addr) (cap : Nat) (L : List Nat) (w : World) (h : LimbsAt w ao cap L) (hl : L.length ≤ 35184372088830) :
    Calls Try.prog 13 #[.agg #[.bool neg, .slice ao L.length cap]] w fun e w' => e = .returned (.bool (rightB neg L)) ∧ Below w.heap.size w w' := by
  by_cases h0 : L = []
  · subst h0
    cases neg
    all_goals
      go_enter Try.func13, Try.ntmps13
      go_wp2
      go_ret
      exact ⟨ret_bool (by simp [rightB]), (Below.refl _ _).alloc (Nat.le_refl _) _⟩
  rcases h.2.2 with h1 | ⟨b, off, rfl, hb, hc⟩
  · exact absurd h1 h0
  have hp : 0 < L.length := List.length_pos_iff.2 h0
  have hc1 := hc (L.length - 1) (by omega)
  clear h hc
  have HE : Hid (rightB neg L = (decide (L.length ≤ 512) && !decide (L[L.length - 1]?.getD 0 = 0))) := by
    unfold Hid; simp [rightB, h0]
  clear h0
  generalize hn : L.length = n at *
  generalize L[n - 1]?.getD 0 = x at *
  generalize rightB neg L = ce at *
  clear hn
  have hne : ((n : Int) == 0) = false := by simp; omega
  have hgt : (0 : Int) < (n : Int) := by omega
  by_cases h5 : n ≤ 512
  · by_cases hx0 : x = 0
    · subst hx0
      go_enter Try.func13, Try.ntmps13
      go_wp2
      go_ret
      exact ⟨ret_bool (by rw [HE.out]; simp), (Below.refl _ _).alloc (Nat.le_refl _) _⟩
    · have hx1 : ((x : Int) == 0) = false := by simp; omega
      go_enter Try.func13, Try.ntmps13
      go_wp2
      go_ret
      exact ⟨ret_bool (by rw [HE.out]; simp [h5, hx0]), (Below.refl _ _).alloc (Nat.le_refl _) _⟩
  · go_enter Try.func13, Try.ntmps13
    go_wp2
    go_ret
    exact ⟨ret_bool (by rw [HE.out]; simp [h5]), (Below.refl _ _).alloc (Nat.le_refl _) _⟩

set_option maxHeartbeats 400000 in
theorem limbAt_any (ao : Option Addr) (cap : Nat) (L : List Nat) (i : Int) (k : Nat) (w : World) (h : LimbsAt w ao cap L) (hl : L.length ≤ 35184372088830) (hk : i = (k : Int)) :
    Calls Try.prog 67 #[.slice ao L.length cap, .int .i64 i] w fun e w' => e = .returned (.int .u64 ((L[k]?.getD 0 : Nat) : Int)) ∧ w = w' := by
  subst hk
  by_cases hlt : k < L.length
  · rcases h.2.2 with h0 | ⟨b, off, rfl, hb, hc⟩
    · subst h0; simp at hlt
    · have hc1 := hc k hlt
      have hx : L[k]?.getD 0 < 4294967296 := by rw [List.getElem?_eq_getElem hlt]; exact h.2.1 _ (List.getElem_mem hlt)
      clear h hc
      generalize L[k]?.getD 0 = x at *
      generalize L.length = n at *
      go_enter Try.func67, Try.ntmps67
      go_wp2
      go_ret
      exact ⟨rfl, rfl⟩
  · have hx : L[k]?.getD 0 = 0 := by rw [List.getElem?_eq_none (by omega)]; rfl
    rw [hx]
    clear h hx
    generalize L.length = n at *
    go_enter Try.func67, Try.ntmps67
    go_wp2
    go_ret
    exact ⟨rfl, rfl⟩

/-- -1, 0, 1. -/
def cmpI (a b : Int) : Int := if a < b then -1 else if b < a then 1 else 0

set_option maxHeartbeats 400000 in
theorem isNaNi_any (a : Int) (w : World) : Calls Try.prog 70 #[.int .i64 a] w fun e w' => e = .returned (.bool false) ∧ w = w' := by
  go_enter Try.func70, Try.ntmps70
  go_wp2
  go_ret
  exact ⟨rfl, rfl⟩

set_option maxHeartbeats 400000 in
theorem isNaNu_any (a : Int) (w : World) : Calls Try.prog 71 #[.int .u32 a] w fun e w' => e = .returned (.bool false) ∧ w = w' := by
  go_enter Try.func71, Try.ntmps71
  go_wp2
  go_ret
  exact ⟨rfl, rfl⟩

set_option maxHeartbeats 400000 in
theorem cmpi_any (a b : Int) (w : World) : Calls Try.prog 68 #[.int .i64 a, .int .i64 b] w fun e w' => e = .returned (.int .i64 (cmpI a b)) ∧ w = w' := by
  have HE : Hid (cmpI a b = if a < b then -1 else if b < a then 1 else 0) := rfl
  generalize cmpI a b = c at *
  rcases (show a < b ∨ b < a ∨ a = b by omega) with h | h | h
  · go_enter Try.func68, Try.ntmps68
    go_wp2_with (go_at_call 70; refine (isNaNi_any _ _).mono ?_; rintro e w' ⟨rfl, rfl⟩)
    go_ret
    exact ⟨ret_int (by rw [HE.out]; simp [h]), rfl⟩
  · have h' : ¬ a < b := by omega
    go_enter Try.func68, Try.ntmps68
    go_wp2_with (go_at_call 70; refine (isNaNi_any _ _).mono ?_; rintro e w' ⟨rfl, rfl⟩)
    go_ret
    exact ⟨ret_int (by rw [HE.out]; simp [h, h']), rfl⟩
  · subst h
    go_enter Try.func68, Try.ntmps68
    go_wp2_with (go_at_call 70; refine (isNaNi_any _ _).mono ?_; rintro e w' ⟨rfl, rfl⟩)
    go_ret
    exact ⟨ret_int (by rw [HE.out]; simp), rfl⟩

set_option maxHeartbeats 400000 in
theorem cmpu_any (a b : Int) (w : World) : Calls Try.prog 69 #[.int .u32 a, .int .u32 b] w fun e w' => e = .returned (.int .i64 (cmpI a b)) ∧ w = w' := by
  have HE : Hid (cmpI a b = if a < b then -1 else if b < a then 1 else 0) := rfl
  generalize cmpI a b = c at *
  rcases (show a < b ∨ b < a ∨ a = b by omega) with h | h | h
  · go_enter Try.func69, Try.ntmps69
    go_wp2_with (go_at_call 71; refine (isNaNu_any _ _).mono ?_; rintro e w' ⟨rfl, rfl⟩)
    go_ret
    exact ⟨ret_int (by rw [HE.out]; simp [h]), rfl⟩
  · have h' : ¬ a < b := by omega
    go_enter Try.func69, Try.ntmps69
    go_wp2_with (go_at_call 71; refine (isNaNu_any _ _).mono ?_; rintro e w' ⟨rfl, rfl⟩)
    go_ret
    exact ⟨ret_int (by rw [HE.out]; simp [h, h']), rfl⟩
  · subst h
    go_enter Try.func69, Try.ntmps69
    go_wp2_with (go_at_call 71; refine (isNaNu_any _ _).mono ?_; rintro e w' ⟨rfl, rfl⟩)
    go_ret
    exact ⟨ret_int (by rw [HE.out]; simp), rfl⟩
end Go.Proofs.Ytnpogpoknbgodaa

/- Contracts of what only reads: trim, Same, compareLimbs, More. -/
namespace Go.Proofs.Ytnpogpoknbgodaa
open Go.RowKit

theorem quiet_eq {P : Program} {f : FuncId} {args : Array Value} {w : World} {n : Nat} {v : Value}
    (h : Calls P f args (w.drewN n) fun e w' => e = .returned v ∧ w.drewN n = w') : Calls P f args (w.drewN n) fun e w'' => e = .returned v ∧ ∃ m, w'' = w.drewN m :=
  h.mono fun _ _ ⟨he, hm⟩ => ⟨he, n, hm.symm⟩

/-- What trim answers: a beginning of L, with no 0 on top, of the same value. -/
def Trimmed (ao : Option Addr) (cap : Nat) (L : List Nat) (v : Value) : Prop :=
  ∃ ao' cap' L', v = .slice ao' L'.length cap' ∧ Canon L' ∧ val L' = val L ∧ L'.length ≤ L.length ∧ (∀ w, LimbsAt w ao cap L → LimbsAt w ao' cap' L') ∧ (∀ B, NewAt B ao L → NewAt B ao' L')

theorem NewAt.take {B : Nat} {ao : Option Addr} {L : List Nat} (h : NewAt B ao L) (n : Nat) : NewAt B ao (L.take n) := by
  rcases h with h | h
  · left; simp [h]
  · exact .inr h

set_option maxHeartbeats 400000 in
theorem trim_any (ao : Option Addr) (cap : Nat) (L : List Nat) (w : World) (h : LimbsAt w ao cap L) (hl : L.length ≤ 35184372088832) :
    Calls Try.prog 52 #[.slice ao L.length cap] w fun e w' => ∃ v, e = .returned v ∧ Trimmed ao cap L v ∧ w = w' := by
  have key : ∀ k, k < L.length → val (L.take (L.length - k)) = val L → L[L.length - k - 1]?.getD 0 ≠ 0 → Trimmed ao cap L (.slice ao (L.length - k) cap) := by
    intro k hk hv hx
    refine ⟨ao, cap, L.take (L.length - k), ?_, ?_, hv, by simp, fun w h => h.take _, fun B h => h.take _⟩
    · rw [List.length_take, Nat.min_eq_left (by omega)]
    · right
      rw [List.length_take, Nat.min_eq_left (by omega), List.getElem?_take, if_pos (by omega)]
      exact hx
  have key0 : val (L.take 0) = val L → Trimmed ao cap L (.slice none 0 0) := by
    intro hv
    exact ⟨none, 0, [], rfl, .inl rfl, by simpa using hv, by simp, fun _ _ => LimbsAt.nil _ _ _, fun _ _ => .inl rfl⟩
  have K := hide key
  have K0 := hide key0
  clear key key0
  rcases h.2.2 with h0 | ⟨b, off, rfl, hb, hc⟩
  · subst h0
    clear K
    go_enter Try.func52, Try.ntmps52
    go_wp2
    refine wp_loop_rounds 1 ?_
    rw [rounds_succ]
    go_wp2
    go_ret
    exact ⟨_, rfl, unhide K0 rfl, rfl⟩
  · have hcap := h.1
    go_enter Try.func52, Try.ntmps52
    go_wp2
    go_loop [7] (fun i => ∃ k : Nat, k ≤ L.length ∧ i = .int .i64 k ∧ Hid (val (L.take (L.length - k)) = val L)) (fun i => L.length - (intOf i).toNat)
    case atStart => exact ⟨0, Nat.zero_le _, rfl, by unfold Hid; simp⟩
    case round =>
      obtain ⟨k, hk, rfl, hv⟩ := hrel
      by_cases hlt : k < L.length
      · have hc1 := hc (L.length - k - 1) (by omega)
        clear hc
        by_cases hx0 : L[L.length - k - 1]?.getD 0 = 0
        · have hp := val_take_pred L (L.length - k) hx0
          have hp' : Hid (val (L.take (L.length - (k + 1))) = val L) := by
            unfold Hid; rw [show L.length - (k + 1) = L.length - k - 1 by omega, hp]; exact hv.out
          rw [hx0] at hc1
          clear hx0 hp hv K K0 h
          go_wp2
          go_round
          case rel => exact ⟨k + 1, by omega, by go_num, hp'⟩
          case measure => simp [intOf]; omega
        · have hT := unhide K k hlt hv.out hx0
          have HT := hide hT
          clear hT K K0 h hv
          have hx1 : (((L[L.length - k - 1]?.getD 0 : Nat) : Int) != 0) = true := by rw [bne_iff_ne]; omega
          generalize L[L.length - k - 1]?.getD 0 = x at *
          generalize hn : L.length = n at *
          clear hn
          go_wp2
          go_ret
          exact ⟨_, rfl, unhide HT, rfl⟩
      · have hT := unhide K0 (by rw [← hv.out, show L.length - k = 0 by omega])
        have HT := hide hT
        clear hT K K0 h hv hc
        go_wp2
        go_ret
        exact ⟨_, rfl, unhide HT, rfl⟩

end Go.Proofs.Ytnpogpoknbgodaa

/- Contracts of what compares: Same, compareLimbs, More. -/
namespace Go.Proofs.Ytnpogpoknbgodaa
open Go.RowKit

theorem LimbsAt.ne {w : World} {ao : Option Addr} {cap : Nat} {L : List Nat} (h : LimbsAt w ao cap L) (h0 : 0 < L.length) : ∃ b off, ao = some ⟨b, off, none⟩ ∧ b < w.heap.size ∧ ∀ i, i < L.length → w.cell? ⟨b, off + i, none⟩ = some (.int .u32 ((L[i]?.getD 0 : Nat) : Int)) := by
  rcases h.2.2 with e | h
  · subst e; simp at h0
  · exact h

/-- Same says whether signs and limbs are the same. -/
def sameB (na : Bool) (A : List Nat) (nb : Bool) (B : List Nat) : Bool := decide (na = nb ∧ A = B)

theorem sameB_no {na nb : Bool} {A B : List Nat} (k : Nat) (h : A[k]?.getD 0 ≠ B[k]?.getD 0) : sameB na A nb B = false := by
  simp only [sameB, decide_eq_false_iff_not]
  rintro ⟨_, rfl⟩
  exact h rfl

theorem list_ext_getD (A B : List Nat) (hl : A.length = B.length) (h : ∀ j, j < A.length → A[j]?.getD 0 = B[j]?.getD 0) : A = B := by
  refine List.ext_getElem hl fun i h1 h2 => ?_
  have := h i h1
  rw [List.getElem?_eq_getElem h1, List.getElem?_eq_getElem h2] at this
  exact this

set_option maxHeartbeats 400000 in
theorem same_any (na nb : Bool) (ao bo : Option Addr) (ca cb : Nat) (A B : List Nat) (w : World) (hA : LimbsAt w ao ca A) (hB : LimbsAt w bo cb B) (la : A.length ≤ 35184372088832) (lb : B.length ≤ 35184372088832) :
    Calls Try.prog 16 #[.agg #[.bool na, .slice ao A.length ca], .agg #[.bool nb, .slice bo B.length cb]] w fun e w' => e = .returned (.bool (sameB na A nb B)) ∧ Below w.heap.size w w' := by
  by_cases hn : na ≠ nb
  · have HE := hide (show sameB na A nb B = false by simp [sameB, hn])
    generalize sameB na A nb B = s at *
    have hne : (na != nb) = true := by rw [bne_iff_ne]; exact hn
    go_enter Try.func16, Try.ntmps16
    go_wp2
    go_ret
    exact ⟨ret_bool (unhide HE).symm, ((Below.refl _ _).alloc (Nat.le_refl _) _).alloc (by simp) _⟩
  have hn : na = nb := Decidable.byContradiction hn
  by_cases hl : A.length ≠ B.length
  · have HE := hide (show sameB na A nb B = false by simp [sameB]; rintro _ rfl; exact hl rfl)
    generalize sameB na A nb B = s at *
    subst hn
    have hne : ((A.length : Int) != (B.length : Int)) = true := by rw [bne_iff_ne]; omega
    go_enter Try.func16, Try.ntmps16
    go_wp2
    go_ret
    exact ⟨ret_bool (unhide HE).symm, ((Below.refl _ _).alloc (Nat.le_refl _) _).alloc (by simp) _⟩
  have hl : A.length = B.length := by omega
  subst hn
  by_cases h0 : A.length = 0
  · have eA : A = [] := List.length_eq_zero_iff.1 h0
    have eB : B = [] := List.length_eq_zero_iff.1 (by omega)
    subst eA; subst eB
    go_enter Try.func16, Try.ntmps16
    go_wp2
    refine wp_loop_rounds 1 ?_
    rw [rounds_succ]
    go_wp2
    go_ret
    exact ⟨ret_bool (by simp [sameB]), ((Below.refl _ _).alloc (Nat.le_refl _) _).alloc (by simp) _⟩
  obtain ⟨b1, o1, rfl, hb1, hc1⟩ := hA.ne (by omega)
  obtain ⟨b2, o2, rfl, hb2, hc2⟩ := hB.ne (by omega)
  have hE : ∀ k, k = A.length → (∀ j, j < k → A[j]?.getD 0 = B[j]?.getD 0) → sameB na A na B = true := by
    rintro k rfl h
    simp [sameB, list_ext_getD A B hl h]
  have HE := hide hE
  have hN : ∀ k, A[k]?.getD 0 ≠ B[k]?.getD 0 → sameB na A na B = false := fun k h => sameB_no k h
  have HN := hide hN
  have hl' := hl.symm
  clear hE hN hA hB
  rw [← hl]
  generalize hb : sameB na A na B = s at *
  clear hb
  generalize hm : A.length = n at *
  have hm' : B.length = n := hl.symm
  clear hl hl'
  go_enter Try.func16, Try.ntmps16
  go_wp2
  go_loopw [5] (fun i wr => ∃ k : Nat, k ≤ n ∧ i = .int .i64 k ∧ Hid (∀ j, j < k → A[j]?.getD 0 = B[j]?.getD 0) ∧ Below w.heap.size w wr ∧ wr.cell? ⟨w.heap.size, 1, none⟩ = some (.slice (some ⟨b1, o1, none⟩) n ca) ∧ wr.cell? ⟨w.heap.size + 1, 1, none⟩ = some (.slice (some ⟨b2, o2, none⟩) n cb))
    (fun i _ => n - (intOf i).toNat)
  case atStart =>
    refine ⟨0, Nat.zero_le _, rfl, fun j hj => absurd hj (by omega), ((Below.refl _ _).alloc (Nat.le_refl _) _).alloc (by simp) _, ?_, ?_⟩
    · simp [go_sem]
    · simp [go_sem]
  case round =>
    obtain ⟨k, hk, rfl, hq, hbel, f1, f2⟩ := hrel
    by_cases hlt : k < n
    · have c1 : wr.cell? ⟨b1, o1 + k, none⟩ = some (.int .u32 ((A[k]?.getD 0 : Nat) : Int)) := by rw [hbel.cell (p := ⟨b1, o1 + k, none⟩) hb1]; exact hc1 k hlt
      have c2 : wr.cell? ⟨b2, o2 + k, none⟩ = some (.int .u32 ((B[k]?.getD 0 : Nat) : Int)) := by rw [hbel.cell (p := ⟨b2, o2 + k, none⟩) hb2]; exact hc2 k (by omega)
      clear hc1 hc2 HE hm hm'
      have hlt' : (k : Int) < (n : Int) := by omega
      by_cases hx : A[k]?.getD 0 = B[k]?.getD 0
      · have hq' : Hid (∀ j, j < k + 1 → A[j]?.getD 0 = B[j]?.getD 0) := fun j hj => by
          rcases Nat.lt_succ_iff_lt_or_eq.1 hj with h | h
          · exact hq.out j h
          · rw [h]; exact hx
        rw [hx] at c1
        clear hx hq HN
        generalize B[k]?.getD 0 = x at *
        go_wp2
        go_quiet (fail)
        go_wp2
        go_roundw
        case rel => exact ⟨k + 1, by omega, by go_num, hq', below_drewN hbel _, by simpa using f1, by simpa using f2⟩
        case measure => simp [intOf]; omega
      · have HS := hide (unhide HN k hx)
        have hx1 : (((A[k]?.getD 0 : Nat) : Int) != ((B[k]?.getD 0 : Nat) : Int)) = true := by rw [bne_iff_ne]; omega
        clear HN hq hx
        generalize B[k]?.getD 0 = x at *
        generalize A[k]?.getD 0 = y at *
        go_wp2
        go_quiet (fail)
        go_wp2
        go_ret
        exact ⟨ret_bool (unhide HS).symm, below_drewN hbel _⟩
    · have HS := hide (unhide HE k (by omega) hq.out)
      clear HE HN hc1 hc2
      go_wp2
      go_ret
      exact ⟨ret_bool (unhide HS).symm, hbel⟩

end Go.Proofs.Ytnpogpoknbgodaa

