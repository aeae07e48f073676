/- Part 31 of the texts. -/
import Derived.Test.YtfnnbkclnflpfaaGreatDoorPartS30
import Derived.Test.YtfnnbkclnflpfaaGreatDoorPartS08
import Derived.Test.YtfnnbkclnflpfaaGreatDoorPartS06
import Derived.Test.YtfnnbkclnflpfaaGreatDoorPartS09
import Derived.Test.YtfnnbkclnflpfaaGreatDoorPartS07
/- Contracts of exact's width, wellShaped. -/
namespace Go.Proofs.YtfnnbkclnflpfaaGreatDoor
open Go.RowKit

/-- Lengths that no wrap touches. -/
def SmallM (M : List Rw) : Prop := M.length ≤ 35184372088830 ∧ ∀ r ∈ M, r.R.length ≤ 35184372088830 ∧ ∀ x ∈ r.R, x.L.length ≤ 35184372088830

theorem SmallM.row {M : List Rw} (h : SmallM M) (i : Nat) : (rwAt M i).R.length ≤ 35184372088830 := by
  by_cases hi : i < M.length
  · exact (h.2 _ (rwAt_mem hi)).1
  · unfold rwAt; rw [List.getElem?_eq_none (by omega)]; simp [Rw.nil]

set_option maxHeartbeats 4000000 in
theorem width_any (ao : Option Addr) (cap : Nat) (M : List Rw) (w : World) (h : MatAt w ao cap M) (hs : SmallM M) :
    Calls Tryz.prog 169 #[.slice ao M.length cap] w fun e w' => e = .returned (.int .i64 (width M)) ∧ w = w' := by
  by_cases h0 : M = []
  · subst h0
    go_enter Tryz.func169, Tryz.ntmps169
    go_wp2
    go_ret
    exact ⟨rfl, rfl⟩
  · have hp : 0 < M.length := List.length_pos_iff.2 h0
    obtain ⟨b, off, rfl, hb, hc⟩ := h.ne hp
    have hc0 := hc 0 hp
    rw [Nat.add_zero] at hc0
    have hne : ((M.length : Int) == 0) = false := by simp; exact h0
    have hr := hs.row 0
    clear h hc hs h0
    unfold width
    generalize (rwAt M 0).R.length = n at *
    generalize (rwAt M 0).ao = a0 at *
    generalize (rwAt M 0).cap = c0 at *
    generalize M.length = m at *
    have hmI : (0 : Int) < (m : Int) := by omega
    go_enter Tryz.func169, Tryz.ntmps169
    go_wp2
    go_ret
    exact ⟨rfl, rfl⟩

/-- Are there not too many rows, nor columns, as many in each? -/
def shapeB (M : List Rw) : Bool := decide (M.length ≤ 6) && decide (width M ≤ 6) && M.all (fun r => decide (r.R.length = width M))

set_option maxHeartbeats 4000000 in
theorem wellShaped_any (ao : Option Addr) (cap : Nat) (M : List Rw) (w : World) (h : MatAt w ao cap M) (hs : SmallM M) :
    Calls Tryz.prog 145 #[.slice ao M.length cap] w fun e w' => e = .returned (.bool (shapeB M)) ∧ w = w' := by
  have CW := hide (fun w' (h : MatAt w' ao cap M) => width_any ao cap M w' h hs)
  have hw : width M ≤ 35184372088830 := hs.row 0
  have HS := hide hs
  by_cases h6 : M.length ≤ 6
  · by_cases w6 : width M ≤ 6
    · obtain ⟨n, hn⟩ : ∃ n, width M = n := ⟨_, rfl⟩
      have HE : Hid (shapeB M = M.all (fun r => decide (r.R.length = n))) := by unfold Hid; rw [hn] at w6; simp only [shapeB, hn, decide_eq_true h6, decide_eq_true w6, Bool.true_and]
      rw [hn] at CW w6
      generalize shapeB M = sb at *
      clear hs hw hn
      have h6' : ¬ (6 : Int) < (M.length : Int) := by omega
      have w6' : ¬ (6 : Int) < (n : Int) := by omega
      go_enter Tryz.func145, Tryz.ntmps145
      go_wp2_with (go_at_call 169; refine (unhide CW _ h).mono ?_; rintro e w' ⟨rfl, rfl⟩)
      go_loop [15] (fun i => ∃ k : Nat, k ≤ M.length ∧ i = .int .i64 k ∧ Hid (∀ j, j < k → (rwAt M j).R.length = n)) (fun i => M.length - (intOf i).toNat)
      case atStart => exact ⟨0, Nat.zero_le _, rfl, by unfold Hid; intro j hj; omega⟩
      case round =>
        obtain ⟨k, hk, rfl, hq⟩ := hrel
        by_cases hlt : k < M.length
        · obtain ⟨b, off, hao, hb, hc⟩ := h.ne (by omega)
          have hck := hc k hlt
          have hr := (unhide HS).row k
          have hkI : (k : Int) < (M.length : Int) := by omega
          obtain ⟨m, hm⟩ : ∃ m, (rwAt M k).R.length = m := ⟨_, rfl⟩
          rw [hm] at hck hr
          generalize (rwAt M k).ao = a0 at *
          generalize (rwAt M k).cap = c0 at *
          clear hc
          by_cases e : m = n
          · subst e
            have hee : ((m : Int) == (m : Int)) = true := by simp
            subst hao
            have HQ : Hid (∀ j, j < k + 1 → (rwAt M j).R.length = m) := by
              unfold Hid; intro j hj
              rcases Nat.lt_succ_iff_lt_or_eq.1 hj with h | rfl
              · exact hq.out j h
              · exact hm
            clear hq hm
            go_wp2_with (go_at_call 169; refine (unhide CW _ h).mono ?_; rintro e w' ⟨rfl, rfl⟩)
            go_round
            case rel => exact ⟨k + 1, by omega, by go_num, HQ⟩
            case measure => simp [intOf]; omega
          · have hee : ((m : Int) == (n : Int)) = false := by simp; omega
            subst hao
            have HF : Hid (sb = false) := by
              unfold Hid; rw [HE.out, List.all_eq_false]
              exact ⟨rwAt M k, rwAt_mem hlt, by simp; omega⟩
            clear hq hm
            go_wp2_with (go_at_call 169; refine (unhide CW _ h).mono ?_; rintro e w' ⟨rfl, rfl⟩)
            go_ret
            exact ⟨ret_bool HF.out.symm, rfl⟩
        · have HT : Hid (sb = true) := by
            unfold Hid; rw [HE.out, List.all_eq_true]
            intro r hr
            obtain ⟨j, hj, rfl⟩ := List.getElem_of_mem hr
            have := hq.out j (by omega)
            unfold rwAt at this
            rw [List.getElem?_eq_getElem hj] at this
            simpa using this
          have hkk : k = M.length := by omega
          subst hkk
          clear hq
          go_wp2
          go_ret
          exact ⟨ret_bool HT.out.symm, rfl⟩
    · have HF : Hid (shapeB M = false) := by unfold Hid; simp [shapeB, w6]
      generalize shapeB M = sb at *
      generalize width M = n at *
      have h6' : ¬ (6 : Int) < (M.length : Int) := by omega
      have w6' : (6 : Int) < (n : Int) := by omega
      clear hs
      go_enter Tryz.func145, Tryz.ntmps145
      go_wp2_with (go_at_call 169; refine (unhide CW _ h).mono ?_; rintro e w' ⟨rfl, rfl⟩)
      go_ret
      exact ⟨ret_bool HF.out.symm, rfl⟩
  · have HF : Hid (shapeB M = false) := by unfold Hid; simp [shapeB, h6]
    generalize shapeB M = sb at *
    have h6' : (6 : Int) < (M.length : Int) := by omega
    have hl := hs.1
    clear hs
    go_enter Tryz.func145, Tryz.ntmps145
    go_wp2_with fail
    go_ret
    exact ⟨ret_bool HF.out.symm, rfl⟩

end Go.Proofs.YtfnnbkclnflpfaaGreatDoor

/- Contracts of exact's all, Check. -/
namespace Go.Proofs.YtfnnbkclnflpfaaGreatDoor
open Go.RowKit

/-- Calls of a function on a number tell p. -/
def Tells (fn : Nat) (p : Nm → Bool) : Prop := ∀ (w : World) (x : Nm), LimbsAt w x.ao x.cap x.L → x.L.length ≤ 35184372088830 →
  Calls Tryz.prog fn #[.agg #[.bool x.neg, .slice x.ao x.L.length x.cap]] w fun e w' => e = .returned (.bool (p x)) ∧ Below w.heap.size w w'

set_option maxHeartbeats 4000000 in
theorem all_any (fn : Nat) (p : Nm → Bool) (hcf : ∀ args w, (callFunc fn args).run Tryz.prog w = .ok (.enter fn args) w) (hp : Tells fn p) (ao : Option Addr) (cap : Nat) (M : List Rw) (w : World) (h : MatAt w ao cap M) (hs : SmallM M) :
    Calls Tryz.prog 146 #[.slice ao M.length cap, .func (.func fn) #[] #[]] w fun e w' => e = .returned (.bool (M.all (fun r => r.R.all p))) ∧ Below w.heap.size w w' := by
  have HP := hide hp
  have HS := hide hs
  have HM := hide h
  have hl := hs.1
  obtain ⟨sb, hsb⟩ : ∃ sb, M.all (fun r => r.R.all p) = sb := ⟨_, rfl⟩
  rw [hsb]
  have HE := hide hsb
  clear hp hs h hsb
  go_enter Tryz.func146, Tryz.ntmps146
  go_wp2_with fail
  go_loopw [11] (fun i wr => ∃ k : Nat, k ≤ M.length ∧ i = .int .i64 k ∧ Hid (∀ j, j < k → (rwAt M j).R.all p = true) ∧ Below w.heap.size w wr) (fun i _ => M.length - (intOf i).toNat)
  case atStart => exact ⟨0, Nat.zero_le _, rfl, by unfold Hid; intro j hj; omega, Below.refl _ _⟩
  case round =>
    obtain ⟨k, hk, rfl, hq, hb⟩ := hrel
    by_cases hlt : k < M.length
    · obtain ⟨b, off, hao, hbb, hc⟩ := ((unhide HM).below hb).ne (by omega)
      have hck := hc k hlt
      have hr := (unhide HS).row k
      have hkI : (k : Int) < (M.length : Int) := by omega
      have hn0 := (unhide HM).nums hlt
      have hxs := ((unhide HS).2 _ (rwAt_mem hlt)).2
      obtain ⟨R, hR⟩ : ∃ R, (rwAt M k).R = R := ⟨_, rfl⟩
      rw [hR] at hck hr hn0 hxs
      generalize (rwAt M k).ao = a0 at *
      generalize (rwAt M k).cap = c0 at *
      have HN := hide hn0
      have HX := hide hxs
      clear hc hn0 hxs
      subst hao
      go_wp2_with fail
      go_loopw [17] (fun i wq => ∃ c : Nat, c ≤ R.length ∧ i = .int .i64 c ∧ Hid (∀ j, j < c → p (nmAt R j) = true) ∧ Below w.heap.size w wq) (fun i _ => R.length - (intOf i).toNat)
      case atStart => exact ⟨0, Nat.zero_le _, rfl, by unfold Hid; intro j hj; omega, hb⟩
      case round =>
        obtain ⟨c, hc, rfl, hqc, hbq⟩ := hrel
        by_cases hcl : c < R.length
        · have hbw := hbq
          obtain ⟨b1, o1, hao1, hb1, hc1⟩ := ((unhide HN).below hbw).ne (by omega)
          obtain ⟨c1, c2⟩ := hc1 c hcl
          have hlx := ((unhide HN).below hbw).limbs hcl
          have hxl := unhide HX _ (nmAt_mem hcl)
          obtain ⟨x, hx⟩ : ∃ x, nmAt R c = x := ⟨_, rfl⟩
          rw [hx] at c1 c2 hlx hxl
          have hcI : (c : Int) < (R.length : Int) := by omega
          obtain ⟨nx, ax, cx, Lx⟩ := x
          simp only at c1 c2 hlx hxl
          have HLX := hide hlx
          have HXE := hide hx
          clear hc1 hlx hx
          subst hao1
          go_wp2_with fail
          refine ((unhide HP) _ ⟨nx, ax, cx, Lx⟩ ((unhide HLX).below ((Below.refl _ _).alloc (Nat.le_refl _) _)) hxl).mono ?_
          rintro e w2 ⟨rfl, hb2⟩
          have hb3 : Below w.heap.size w w2 := hbq.trans ((((Below.refl wr.heap.size wr).alloc (Nat.le_refl _) _).trans (hb2.mono (by simp))).mono hbq.size)
          by_cases hpx : p ⟨nx, ax, cx, Lx⟩ = true
          · rw [hpx]
            have HQ : Hid (∀ j, j < c + 1 → p (nmAt R j) = true) := by
              unfold Hid; intro j hj
              rcases Nat.lt_succ_iff_lt_or_eq.1 hj with h | rfl
              · exact hqc.out j h
              · rw [unhide HXE]; exact hpx
            clear hqc hb2 hbq hbw c1 c2
            go_wp2_with fail
            go_roundw
            case rel => exact ⟨c + 1, by omega, by go_num, HQ, hb3⟩
            case measure => simp [intOf]; omega
          · have hpf : p ⟨nx, ax, cx, Lx⟩ = false := by simpa using hpx
            rw [hpf]
            have HF : Hid (sb = false) := by
              unfold Hid; rw [← unhide HE, List.all_eq_false]
              refine ⟨rwAt M k, rwAt_mem hlt, ?_⟩
              rw [hR, Bool.not_eq_true, List.all_eq_false]
              exact ⟨nmAt R c, nmAt_mem hcl, by rw [unhide HXE, hpf]; decide⟩
            clear hqc hb2 hbq hbw c1 c2
            go_wp2_with fail
            go_ret
            exact ⟨ret_bool HF.out.symm, hb3⟩
        · have hcc : c = R.length := by omega
          have HQ : Hid (∀ j, j < k + 1 → (rwAt M j).R.all p = true) := by
            unfold Hid; intro j hj
            rcases Nat.lt_succ_iff_lt_or_eq.1 hj with h | rfl
            · exact hq.out j h
            · rw [hR, List.all_eq_true]
              intro x hx
              obtain ⟨i, hi, rfl⟩ := List.getElem_of_mem hx
              have := hqc.out i (by omega)
              unfold nmAt at this
              rwa [List.getElem?_eq_getElem hi] at this
          subst hcc
          have hb4 := hbq
          clear hqc hq hbq hb
          go_wp2_with fail
          go_roundw
          case rel => exact ⟨k + 1, by omega, by go_num, HQ, hb4⟩
          case measure => simp [intOf]; omega
    · have HT : Hid (sb = true) := by
        unfold Hid; rw [← unhide HE, List.all_eq_true]
        intro r hr
        obtain ⟨j, hj, rfl⟩ := List.getElem_of_mem hr
        have := hq.out j (by omega)
        unfold rwAt at this
        rwa [List.getElem?_eq_getElem hj] at this
      have hkk : k = M.length := by omega
      subst hkk
      clear hq
      go_wp2
      go_ret
      exact ⟨ret_bool HT.out.symm, hb⟩

set_option maxRecDepth 20000 in
theorem cf29 (args : Array Value) (w : World) : (callFunc 147 args).run Tryz.prog w = .ok (.enter 147 args) w := by
  simp only [callFunc, go_sem]
  rfl
set_option maxRecDepth 20000 in
theorem cf31 (args : Array Value) (w : World) : (callFunc 148 args).run Tryz.prog w = .ok (.enter 148 args) w := by
  simp only [callFunc, go_sem]
  rfl

/-- Is a number right, is it short? -/
def rightN (x : Nm) : Bool := rightB x.neg x.L
def shortN (x : Nm) : Bool := decide (x.L.length ≤ 80)

set_option maxHeartbeats 4000000 in
theorem check1_tells : Tells 147 rightN := by
  rintro w ⟨nx, ax, cx, Lx⟩ h hl
  have HC := hide (fun w' h' => check_any nx ax cx Lx w' h' hl)
  have H := hide h
  simp only at *
  unfold rightN
  simp only
  have HE : Hid (chkE nx Lx = if rightB nx Lx then 0 else 1) := rfl
  generalize chkE nx Lx = e at *
  generalize rightB nx Lx = r at *
  clear h
  go_enter Tryz.func147, Tryz.ntmps147
  go_wp2_with fail
  refine (unhide HC _ ((unhide H).below ((Below.refl _ _).alloc (Nat.le_refl _) _))).mono ?_
  rintro e w2 ⟨rfl, hb2⟩
  rw [HE.out]
  have hb3 : Below w.heap.size w w2 := ((Below.refl w.heap.size w).alloc (Nat.le_refl _) _).trans (hb2.mono (by simp))
  clear hb2
  cases r
  · go_wp2
    go_ret
    exact ⟨rfl, hb3⟩
  · go_wp2
    go_ret
    exact ⟨rfl, hb3⟩

set_option maxHeartbeats 4000000 in
theorem check2_tells : Tells 148 shortN := by
  rintro w ⟨nx, ax, cx, Lx⟩ h hl
  simp only at *
  unfold shortN
  simp only
  generalize Lx.length = n at *
  clear h
  by_cases h8 : n ≤ 80
  · go_enter Tryz.func148, Tryz.ntmps148
    go_wp2
    go_ret
    exact ⟨ret_bool (by simp; omega), (Below.refl _ _).alloc (Nat.le_refl _) _⟩
  · go_enter Tryz.func148, Tryz.ntmps148
    go_wp2
    go_ret
    exact ⟨ret_bool (by simp; omega), (Below.refl _ _).alloc (Nat.le_refl _) _⟩

/-- What Check says. -/
def mChk (M : List Rw) : Int := if shapeB M then (if M.all (fun r => r.R.all rightN) then (if M.all (fun r => r.R.all shortN) then 0 else 2) else 1) else 3

set_option maxHeartbeats 4000000 in
theorem xcheck_any (ao : Option Addr) (cap : Nat) (M : List Rw) (w : World) (h : MatAt w ao cap M) (hs : SmallM M) :
    Calls Tryz.prog 104 #[.slice ao M.length cap] w fun e w' => e = .returned (.int .i64 (mChk M)) ∧ Below w.heap.size w w' := by
  have C1 := hide (fun w' h' => wellShaped_any ao cap M w' h' hs)
  have C2 := hide (fun w' h' => all_any _ _ cf29 check1_tells ao cap M w' h' hs)
  have C3 := hide (fun w' h' => all_any _ _ cf31 check2_tells ao cap M w' h' hs)
  have HM := hide h
  have HE : Hid (mChk M = if shapeB M then (if M.all (fun r => r.R.all rightN) then (if M.all (fun r => r.R.all shortN) then 0 else 2) else 1) else 3) := rfl
  generalize mChk M = e at *
  generalize shapeB M = b1 at *
  generalize M.all (fun r => r.R.all rightN) = b2 at *
  generalize M.all (fun r => r.R.all shortN) = b3 at *
  clear h
  go_enter Tryz.func104, Tryz.ntmps104
  go_wp2_with fail
  refine (unhide C1 _ (unhide HM)).mono ?_
  rintro r w1 ⟨rfl, rfl⟩
  cases b1
  · go_wp2
    go_ret
    exact ⟨ret_int (by rw [HE.out]; rfl), Below.refl _ _⟩
  · go_wp2_with fail
    refine (unhide C2 _ (unhide HM)).mono ?_
    rintro r w1 ⟨rfl, hb1⟩
    cases b2
    · go_wp2
      go_ret
      exact ⟨ret_int (by rw [HE.out]; rfl), hb1⟩
    · go_wp2_with fail
      refine (unhide C3 _ ((unhide HM).below hb1)).mono ?_
      rintro r w2 ⟨rfl, hb2⟩
      have hb3 := hb1.trans (hb2.mono hb1.size)
      clear hb1 hb2
      cases b3
      · go_wp2
        go_ret
        exact ⟨ret_int (by rw [HE.out]; rfl), hb3⟩
      · go_wp2
        go_ret
        exact ⟨ret_int (by rw [HE.out]; rfl), hb3⟩

end Go.Proofs.YtfnnbkclnflpfaaGreatDoor

/- Contracts of exact's rising, setOf. -/
namespace Go.Proofs.YtfnnbkclnflpfaaGreatDoor
open Go.RowKit

/-- The whole numbers I lie at ao. -/
def IntsAt (w : World) (ao : Option Addr) (cap : Nat) (I : List Int) : Prop :=
  I.length ≤ cap ∧ (∀ x ∈ I, -9223372036854775808 ≤ x ∧ x ≤ 9223372036854775807) ∧ (I = [] ∨ ∃ b off, ao = some ⟨b, off, none⟩ ∧ b < w.heap.size ∧ ∀ i, i < I.length → w.cell? ⟨b, off + i, none⟩ = some (.int .i64 (I[i]?.getD 0)))

theorem IntsAt.below {w w' : World} {ao : Option Addr} {cap : Nat} {I : List Int} (h : IntsAt w ao cap I) (hb : Below w.heap.size w w') : IntsAt w' ao cap I := by
  refine ⟨h.1, h.2.1, ?_⟩
  rcases h.2.2 with h | ⟨b, off, h1, h2, h3⟩
  · exact .inl h
  · refine .inr ⟨b, off, h1, Nat.lt_of_lt_of_le h2 hb.size, fun i hi => ?_⟩
    rw [hb.cell (p := ⟨b, off + i, none⟩) h2]
    exact h3 i hi
theorem IntsAt.ne {w : World} {ao : Option Addr} {cap : Nat} {I : List Int} (h : IntsAt w ao cap I) (h0 : 0 < I.length) : ∃ b off, ao = some ⟨b, off, none⟩ ∧ b < w.heap.size ∧ ∀ i, i < I.length → w.cell? ⟨b, off + i, none⟩ = some (.int .i64 (I[i]?.getD 0)) := by
  rcases h.2.2 with e | e
  · rw [e] at h0; simp at h0
  · exact e

def atI (I : List Int) (j : Nat) : Int := I[j]?.getD 0
theorem IntsAt.wf {w : World} {ao : Option Addr} {cap : Nat} {I : List Int} (h : IntsAt w ao cap I) (j : Nat) : -9223372036854775808 ≤ atI I j ∧ atI I j ≤ 9223372036854775807 := by
  unfold atI
  by_cases hi : j < I.length
  · rw [List.getElem?_eq_getElem hi]; exact h.2.1 _ (List.getElem_mem hi)
  · rw [List.getElem?_eq_none (by omega)]; simp

theorem ins_elems : ∀ s, s < 64 → ∀ c, c < 6 → (∀ d ∈ elems s, d < c) → elems (ins s c) = elems s ++ [c] ∧ ins s c < 64 := by decide +kernel
theorem elems_zero : elems 0 = [] := by decide +kernel
/-- The places as numbers from 0 on. -/
def natI (I : List Int) : List Nat := I.map Int.toNat

end Go.Proofs.YtfnnbkclnflpfaaGreatDoor

/- Frames: what a call leaves alone, but for one block; what a number's box is to others. -/
namespace Go.Proofs.YtfnnbkclnflpfaaGreatDoor
open Go.RowKit

/-- Below B nothing has turned but block b. -/
structure Fr (B : Nat) (b : Option Nat) (w w' : World) : Prop where
  os : w'.os = w.os
  tape : w'.tape = w.tape
  output : w'.output = w.output
  size : w.heap.size ≤ w'.heap.size
  block : ∀ k, k < B → some k ≠ b → w'.heap[k]? = w.heap[k]?

theorem Fr.refl (B : Nat) (b : Option Nat) (w : World) : Fr B b w w := ⟨rfl, rfl, rfl, Nat.le_refl _, fun _ _ _ => rfl⟩
theorem Fr.trans {B : Nat} {b : Option Nat} {a c d : World} (h : Fr B b a c) (k : Fr B b c d) : Fr B b a d :=
  ⟨k.os.trans h.os, k.tape.trans h.tape, k.output.trans h.output, Nat.le_trans h.size k.size, fun i hi hb => (k.block i hi hb).trans (h.block i hi hb)⟩
theorem Fr.mono {B B' : Nat} {b : Option Nat} {w w' : World} (h : Fr B b w w') (hB : B' ≤ B) : Fr B' b w w' := ⟨h.os, h.tape, h.output, h.size, fun k hk hb => h.block k (Nat.lt_of_lt_of_le hk hB) hb⟩
theorem Fr.of {B : Nat} {w w' : World} (h : Below B w w') (b : Option Nat) : Fr B b w w' := ⟨h.os, h.tape, h.output, h.size, fun k hk _ => h.block k hk⟩
theorem Fr.drew {B : Nat} {b : Option Nat} {w w' : World} (h : Fr B b w w') : Fr B b w w'.drew := ⟨h.os, h.tape, h.output, h.size, h.block⟩
theorem Fr.alloc {B : Nat} {b : Option Nat} {w w' : World} (h : Fr B b w w') (hB : B ≤ w'.heap.size) (o : Obj) : Fr B b w (w'.alloc o) :=
  h.trans (.of ((Below.refl _ _).alloc hB o) b)
theorem Fr.setCell {B : Nat} {b : Option Nat} {w w' : World} (h : Fr B b w w') {p : Addr} (hp : B ≤ p.block) (u : Value) : Fr B b w (w'.setCell p u) :=
  h.trans (.of ((Below.refl _ _).setCell hp u) b)
theorem Fr.put2 {B : Nat} {b : Option Nat} {w w' : World} {g : Nat} (h : Fr B b w w') (hg : B ≤ g) (u u' : Value) : Fr B b w ((w'.setCell ⟨g, 0, none⟩ u).setCell ⟨g, 1, none⟩ u') :=
  (h.setCell hg _).setCell hg _
/-- One call behind another. -/
theorem Fr.then {B : Nat} {b : Option Nat} {w w1 w2 : World} (h : Fr B b w w1) (hB : B ≤ w.heap.size) (k : Fr w1.heap.size b w1 w2) : Fr B b w w2 := h.trans (k.mono (Nat.le_trans hB h.size))
theorem Fr.thenB {B : Nat} {b : Option Nat} {w w1 w2 : World} (h : Fr B b w w1) (hB : B ≤ w.heap.size) (k : Below w1.heap.size w1 w2) : Fr B b w w2 := h.then hB (.of k b)
theorem Fr.below {B : Nat} {b : Option Nat} {w w' : World} (h : Fr B b w w') {C : Nat} (hC : C ≤ B) (hb : ∀ m, b = some m → C ≤ m) : Below C w w' :=
  ⟨h.os, h.tape, h.output, h.size, fun k hk => h.block k (by omega) (fun e => by have := hb k e.symm; omega)⟩
theorem Fr.box {B : Nat} {b : Option Nat} {w w' : World} (h : Fr B b w w') {g : Nat} {x y : Value} (hx : Box2 w g x y) (hg : g < B) (hb : ∀ m, b = some m → m < g) : Box2 w' g x y :=
  (h.block g hg (fun e => by have := hb g e.symm; omega)).trans hx
theorem LimbsAt.fr {w w' : World} {ao : Option Addr} {cap B : Nat} {L : List Nat} (h : LimbsAt w ao cap L) {b : Option Nat} (hf : Fr w.heap.size b w w') (hn : NewAt B ao L) (hb : ∀ m, b = some m → m < B) : LimbsAt w' ao cap L := by
  refine ⟨h.1, h.2.1, ?_⟩
  rcases h.2.2 with h0 | ⟨c, off, h1, h2, h3⟩
  · exact .inl h0
  · rcases hn with h0 | ⟨b', off', h1', h2'⟩
    · exact .inl h0
    · rw [h1] at h1'
      simp only [Option.some.injEq, Addr.mk.injEq] at h1'
      obtain ⟨rfl, rfl, _⟩ := h1'
      refine .inr ⟨c, off, h1, Nat.lt_of_lt_of_le h2 hf.size, fun i hi => ?_⟩
      rw [World.cell?_of_block (a := ⟨c, off + i, none⟩) (hf.block c h2 (fun e => by have := hb c e.symm; omega))]
      exact h3 i hi
theorem IsNum.fr {B : Nat} {w w' : World} {v : Value} {x : Int} (h : IsNum B w v x) {b : Option Nat} (hf : Fr w.heap.size b w w') (hb : ∀ m, b = some m → m < B) : IsNum B w' v x := by
  obtain ⟨neg, ao, cap, L, h1, h2, h3, h4⟩ := h
  exact ⟨neg, ao, cap, L, h1, h2.fr hf h3 hb, h3, h4⟩
theorem IsNum.putx {B : Nat} {w : World} {v : Value} {x : Int} (h : IsNum B w v x) {g : Nat} (hg : g < B) (u u' : Value) : IsNum B ((w.setCell ⟨g, 0, none⟩ u).setCell ⟨g, 1, none⟩ u') v x := by
  obtain ⟨neg, ao, cap, L, h1, h2, h3, h4⟩ := h
  exact ⟨neg, ao, cap, L, h1, (h2.store h3 hg u).store h3 hg u', h3, h4⟩

/-- Block k is a number's box. -/
def IsBox (w : World) (k : Nat) : Prop := ∃ x a n c, w.heap[k]? = some (.cells #[.bool x, .slice a n c] 27 (0, 0))
/-- Nothing but numbers' boxes from Base on has turned. -/
structure Stb (Base : Nat) (w w' : World) : Prop where
  os : w'.os = w.os
  tape : w'.tape = w.tape
  output : w'.output = w.output
  size : w.heap.size ≤ w'.heap.size
  block : ∀ k, k < w.heap.size → w'.heap[k]? = w.heap[k]? ∨ (Base ≤ k ∧ IsBox w k)

theorem Stb.of {Base : Nat} {w w' : World} (h : Below w.heap.size w w') : Stb Base w w' := ⟨h.os, h.tape, h.output, h.size, fun k hk => .inl (h.block k hk)⟩
theorem Stb.drewed {Base : Nat} {w : World} : Stb Base w w.drew := ⟨rfl, rfl, rfl, Nat.le_refl _, fun _ _ => .inl rfl⟩
theorem Stb.put2 {Base : Nat} {w : World} {g : Nat} {x : Bool} {a : Option Addr} {n c : Nat} (hx : Box2 w g (.bool x) (.slice a n c)) (hg : Base ≤ g) (u u' : Value) : Stb Base w ((w.setCell ⟨g, 0, none⟩ u).setCell ⟨g, 1, none⟩ u') := by
  refine ⟨rfl, rfl, rfl, by simp [World.setCell], fun k _ => ?_⟩
  by_cases e : k = g
  · subst e; exact .inr ⟨hg, x, a, n, c, hx⟩
  · left
    rw [Below.heap_setCell _ _ _ _ (show k ≠ (⟨g, 1, none⟩ : Addr).block from e), Below.heap_setCell _ _ _ _ (show k ≠ (⟨g, 0, none⟩ : Addr).block from e)]
theorem Stb.below {Base : Nat} {w w' : World} (h : Stb Base w w') (hB : Base ≤ w.heap.size) : Below Base w w' :=
  ⟨h.os, h.tape, h.output, h.size, fun k hk => (h.block k (by omega)).resolve_right (fun e => by omega)⟩
/-- What is no box stays. -/
theorem Stb.keeps {Base : Nat} {w w' : World} (h : Stb Base w w') {k : Nat} {o : Obj} (ho : w.heap[k]? = some o) (hn : ∀ x a n c, o ≠ .cells #[.bool x, .slice a n c] 27 (0, 0)) : w'.heap[k]? = some o := by
  have hk : k < w.heap.size := (Array.getElem?_eq_some_iff.1 ho).1
  rcases h.block k hk with e | ⟨_, x, a, n, c, e⟩
  · rw [e]; exact ho
  · rw [ho] at e; exact absurd (Option.some.inj e) (hn x a n c)
theorem LimbsAt.stb {Base : Nat} {w w' : World} {ao : Option Addr} {cap : Nat} {L : List Nat} (h : LimbsAt w ao cap L) (hs : Stb Base w w') : LimbsAt w' ao cap L := by
  refine ⟨h.1, h.2.1, ?_⟩
  rcases h.2.2 with h0 | ⟨c, off, h1, h2, h3⟩
  · exact .inl h0
  · by_cases hL : L = []
    · exact .inl hL
    refine .inr ⟨c, off, h1, Nat.lt_of_lt_of_le h2 hs.size, fun i hi => ?_⟩
    rcases hs.block c h2 with e | ⟨_, x, a, n, k, e⟩
    · rw [World.cell?_of_block (a := ⟨c, off + i, none⟩) e]
      exact h3 i hi
    · have := h3 i hi
      rw [cell_of_row w c _ _ _ _ e] at this
      generalize off + i = j at this
      match j, this with
      | 0, t => simp at t
      | 1, t => simp at t
      | j + 2, t => simp at t
theorem IsNum.stb {B Base : Nat} {w w' : World} {v : Value} {x : Int} (h : IsNum B w v x) (hs : Stb Base w w') : IsNum B w' v x := by
  obtain ⟨neg, ao, cap, L, h1, h2, h3⟩ := h
  exact ⟨neg, ao, cap, L, h1, h2.stb hs, h3⟩

theorem Box2.otherx {w : World} {b g : Nat} {x y : Value} (h : Box2 w b x y) (hne : b ≠ g) (u u' : Value) : Box2 ((w.setCell ⟨g, 0, none⟩ u).setCell ⟨g, 1, none⟩ u') b x y := by
  unfold Box2
  rw [Below.heap_setCell _ _ _ _ (show b ≠ (⟨g, 1, none⟩ : Addr).block from hne), Below.heap_setCell _ _ _ _ (show b ≠ (⟨g, 0, none⟩ : Addr).block from hne)]
  exact h

theorem sub_ok {B B' : Nat} {w : World} {v u : Value} {x y : Int} (hv : IsNum B w v x) (hu : IsNum B' w u y) (hx : x.natAbs < TOP) (hy : y.natAbs < TOP) (hz : (x - y).natAbs < TOP) :
    Calls Tryz.prog 183 #[v, u] w fun e w' => ∃ r, e = .returned (.tuple #[r, .int .i64 0]) ∧ IsNum w.heap.size w' r (x - y) ∧ Below w.heap.size w w' := by
  obtain ⟨na, ao, ca, A, rfl, a1, a2, a3, a4⟩ := hv.right hx
  obtain ⟨nb, bo, cb, C, rfl, b1, b2, b3, b4⟩ := hu.right hy
  have := sub_any na nb ao bo ca cb A C w a1 b1 (by omega) (by omega)
  rw [a2, b2, a3, b3, Bool.and_self, opErr_true, opNum_true, errOf_small _ hz, numOf_small _ hz] at this
  exact this
theorem add_new {B B' : Nat} {w : World} {v u : Value} {x y : Int} (hv : IsNum B w v x) (hu : IsNum B' w u y) (hx : x.natAbs < TOP) (hy : y.natAbs < TOP) (hz : (x + y).natAbs < TOP) :
    Calls Tryz.prog 166 #[v, u] w fun e w' => ∃ r, e = .returned (.tuple #[r, .int .i64 0]) ∧ IsNum w.heap.size w' r (x + y) ∧ Below w.heap.size w w' := by
  have := add_num hv hu hx hy
  rwa [errOf_small _ hz, numOf_small _ hz] at this
theorem mul_new {B B' : Nat} {w : World} {v u : Value} {x y : Int} (hv : IsNum B w v x) (hu : IsNum B' w u y) (hx : x.natAbs < TOP) (hy : y.natAbs < TOP) (hz : (x * y).natAbs < TOP) :
    Calls Tryz.prog 163 #[v, u] w fun e w' => ∃ r, e = .returned (.tuple #[r, .int .i64 0]) ∧ IsNum w.heap.size w' r (x * y) ∧ Below w.heap.size w w' := by
  obtain ⟨na, ao, ca, A, rfl, a1, a2, a3, a4⟩ := hv.right hx
  obtain ⟨nb, bo, cb, C, rfl, b1, b2, b3, b4⟩ := hu.right hy
  have := mul_any na nb ao bo ca cb A C w a1 b1 (by omega) (by omega)
  rw [a2, b2, a3, b3, Bool.and_self, opErr_true, opNum_true, errOf_small _ hz, numOf_small _ hz] at this
  exact this

end Go.Proofs.YtfnnbkclnflpfaaGreatDoor

/- Contract of exact's expand. -/
namespace Go.Proofs.YtfnnbkclnflpfaaGreatDoor
open Go.RowKit
attribute [local go_sem ↓] Go.wp_at_zero Go.wp_at_succ

/-- A row's numbers at a set's places, each times what D says of the others, with signs, the first k places. -/
def exS (r : Nat → Int) (s : Nat) (D : Nat → Int) : Nat → Int
  | 0 => 0
  | k + 1 => exS r s D k + (if s.testBit k then (if abv s k % 2 = 0 then r k * D (del s k) else -(r k * D (del s k))) else 0)

theorem exS_bound (r : Nat → Int) (s : Nat) (D : Nat → Int) (Bd N : Nat) (k : Nat) (hr : ∀ c, c < k → (r c).natAbs ≤ Bd) (hD : ∀ c, c < k → s.testBit c = true → (D (del s c)).natAbs ≤ N) : (exS r s D k).natAbs ≤ k * (Bd * N) := by
  induction k with
  | zero => simp [exS]
  | succ k ih =>
    have h1 := ih (fun c hc => hr c (by omega)) (fun c hc => hD c (by omega))
    unfold exS
    by_cases hb : s.testBit k = true
    · have h2 : (r k * D (del s k)).natAbs ≤ Bd * N := by
        rw [Int.natAbs_mul]; exact Nat.mul_le_mul (hr k (by omega)) (hD k (by omega) hb)
      rw [if_pos hb, Nat.succ_mul]
      generalize r k * D (del s k) = t at *
      split <;> omega
    · rw [if_neg hb, Nat.succ_mul]; omega

/-- The world at hand under a name. -/
theorem at_then {K : Act → World → Prop} {Q : Exit → Act → World → Prop} {a : Act} {w : World} (F : World → Prop) (h : F w) (k : ∀ W, F W → Exit.then K Q .normal a W) : Exit.then K Q .normal a w := k w h

/-- What stands behind the product: its box g, the number in it, the sum's, what else is kept. -/
def TailF (I : World → Prop) (b : Option Nat) (w : World) (n : Bool) (a : Option Addr) (L : List Nat) (c : Nat) (np : Bool) (ap : Option Addr) (Lp : List Nat) (cp : Nat) (x y : Int) (B g : Nat) (W : World) : Prop :=
  Box2 W g (.bool np) (.slice ap Lp.length cp) ∧ IsNum B W (.agg #[.bool np, .slice ap Lp.length cp]) y ∧ IsNum (w.heap.size + 2) W (.agg #[.bool n, .slice a L.length c]) x ∧ I W ∧ Fr w.heap.size b w W ∧ Box2 W (w.heap.size + 1) (.bool n) (.slice a L.length c) ∧ Box2 W w.heap.size (.bool false) (.slice none 0 0)

theorem NumsAt.cells {w : World} {b off cap : Nat} {R : List Nm} (h : NumsAt w (some ⟨b, off, none⟩) cap R) {k : Nat} (hk : k < R.length) : w.cell? ⟨b, off + k * 2, none⟩ = some (.bool (nmAt R k).neg) ∧ w.cell? ⟨b, off + k * 2 + 1, none⟩ = some (.slice (nmAt R k).ao (nmAt R k).L.length (nmAt R k).cap) := by
  obtain ⟨b', off', e, _, hc⟩ := h.ne (by omega)
  simp only [Option.some.injEq, Addr.mk.injEq, and_true] at e
  obtain ⟨rfl, rfl⟩ := e
  exact hc k hk

end Go.Proofs.YtfnnbkclnflpfaaGreatDoor

