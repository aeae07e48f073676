/- Part 35 of the texts. -/
import Derived.Test.YtfnnbkclnflpfaaGreatDoorPartS34
import Derived.Test.YtfnnbkclnflpfaaGreatDoorPartS33
import Derived.Test.YtfnnbkclnflpfaaGreatDoorPartS28
import Derived.Test.YtfnnbkclnflpfaaGreatDoorPartS30
import Derived.Test.YtfnnbkclnflpfaaGreatDoorPartS10
import Derived.WalkSmall
import Derived.Test.YtfnnbkclnflpfaaGreatDoorPartS31
import Derived.OwnWalk
import Derived.Test.YtfnnbkclnflpfaaGreatDoorPartS32
import Derived.Test.YtfnnbkclnflpfaaGreatDoorPartS05
import Derived.Test.YtfnnbkclnflpfaaGreatDoorPartS02
import Derived.Test.YtfnnbkclnflpfaaGreatDoorPartS07
import Derived.Test.YtfnnbkclnflpfaaGreatDoorPartS09
/- Contract of exact's Rank: which places it finds. -/
namespace Go.Proofs.YtfnnbkclnflpfaaGreatDoor
open Go.RowKit
attribute [local go_sem ↓] Go.wp_at_zero Go.wp_at_succ

/-- The places found after k rows. -/
inductive RkRun (M : List Rw) (n : Nat) : Nat → Nat → Nat → Prop
  | start : RkRun M n 0 0 0
  | step {k pr pc rr cc : Nat} : RkRun M n k pr pc → Wid M n pr pc k rr cc → RkRun M n (k + 1) rr cc

theorem rk_bounds {M : List Rw} {n : Nat} (hn : n ≤ 6) {k pr pc : Nat} (h : RkRun M n k pr pc) (hk : k ≤ 6) : pr < 2 ^ k ∧ pc < 2 ^ n ∧ sz pr = sz pc := by
  induction h with
  | start => exact ⟨by decide, Nat.pow_pos (by decide), rfl⟩
  | @step k pr pc rr cc _ hw ih =>
    obtain ⟨h1, h2, h3⟩ := ih (by omega)
    have hp64 : pr < 64 := Nat.lt_of_lt_of_le h1 (set_full k (by omega)).2
    have hc64 : pc < 64 := Nat.lt_of_lt_of_le h2 (set_full n hn).2
    obtain ⟨hb, hlt⟩ := bit_out k (by omega) pr h1
    rcases hw with ⟨c, hc, hcb, rfl, rfl, _⟩ | ⟨rfl, rfl, _⟩
    · exact ⟨ins_width (k + 1) hk pr hlt k (by omega), ins_width n hn pc h2 c hc, by rw [(ins_facts pr hp64 k (by omega) hb).2, (ins_facts pc hc64 c (by omega) hcb).2, h3]⟩
    · exact ⟨hlt, h2, h3⟩

set_option maxHeartbeats 4000000 in
theorem rank_run (ao : Option Addr) (cap : Nat) (M : List Rw) (w : World) (h : MatAt w ao cap M) (hs : SmallM M) :
    Calls Tryz.prog 63 #[.slice ao M.length cap] w fun e w' => ∃ k : Nat, e = .returned (.tuple #[.int .i64 (k : Int), .int .i64 (mChk M)]) ∧ (mChk M = 0 → ∃ pr pc, RkRun M (width M) M.length pr pc ∧ k = sz pr) ∧ (mChk M ≠ 0 → k = 0) ∧ Below w.heap.size w w' := by
  have C1 := hide (fun w' h' => xcheck_any ao cap M w' h' hs)
  have HM := hide h
  have hl := hs.1
  by_cases h0 : mChk M = 0
  · have hg := good_of h h0
    have CN := hide (fun w' => newLedger_any ao cap M w')
    have CWD := hide (fun (w1 : World) (m : Nat) (hm : w1.heap.size ≤ m) (hM1 : MatAt w1 ao cap M) (k pr pc : Nat) (w' : World) (hk : k < M.length) (hR : RkRun M (width M) k pr pc) (hI : LInv w1 m M w') =>
      widened_any ao cap M (width M) w1 m hM1 hg hm pr pc k w' hk (rk_bounds hg.2.1 hR (by have := hg.1; omega)).1 (rk_bounds hg.2.1 hR (by have := hg.1; omega)).2.1 (rk_bounds hg.2.1 hR (by have := hg.1; omega)).2.2 hI)
    have HB := hide (fun (pr pc : Nat) (hR : RkRun M (width M) M.length pr pc) => (show pr < 64 from Nat.lt_of_lt_of_le (rk_bounds hg.2.1 hR hg.1).1 (set_full _ hg.1).2))
    rw [h0] at C1 ⊢
    clear hs h hg h0
    go_enter Tryz.func63, Tryz.ntmps63
    go_wp2_with fail
    refine (unhide C1 _ (unhide HM)).mono ?_
    rintro e w1 ⟨rfl, hb1⟩
    have HM1 := hide ((unhide HM).below hb1)
    have B1 := hide hb1
    clear hb1 C1 HM
    go_wp2_with fail
    refine (unhide CN _).mono ?_
    rintro e w2 ⟨m, rfl, hm, hI⟩
    have CW := hide (fun k pr pc w' hk hR h => unhide CWD w1 m hm (unhide HM1) k pr pc w' hk hR h)
    have hmw := hI.2.lt
    have hw12 := hI.1.size
    have b2 : Below w2.heap.size w2 ((w2.alloc (.cells #[.slice ao M.length cap, .map (some m)] 125)).alloc (.cells #[.int .u64 0, .int .u64 0] 129)) := ((Below.refl _ _).alloc (Nat.le_refl _) _).alloc (by simp) _
    have I2 := hide (hI.below b2)
    have L2 := hide ((CellsAt.new w2 #[.slice ao M.length cap, .map (some m)] 125).old (.cells #[.int .u64 0, .int .u64 0] 129))
    have p2 := CellsAt.new (w2.alloc (.cells #[.slice ao M.length cap, .map (some m)] 125)) #[.int .u64 0, .int .u64 0] 129
    simp only [World.size_alloc] at p2
    have P2 := hide p2
    clear hI CN CWD p2 b2
    go_wp2_with fail
    go_loopw [18] (fun i wr => ∃ (k pr pc : Nat), k ≤ M.length ∧ i = .int .i64 k ∧ Hid (CellsAt wr w2.heap.size #[.slice ao M.length cap, .map (some m)] 125) ∧ Hid (CellsAt wr (w2.heap.size + 1) #[.int .u64 (pr : Int), .int .u64 (pc : Int)] 129) ∧ Hid (LInv w1 m M wr) ∧ Hid (RkRun M (width M) k pr pc)) (fun i _ => M.length - (intOf i).toNat)
    case atStart => exact ⟨0, 0, 0, Nat.zero_le _, rfl, L2, P2, I2, .start⟩
    case round =>
      obtain ⟨k, pr, pc, hk, rfl, hL, hP, hIr, hR⟩ := hrel
      by_cases hlt : k < M.length
      · have l0 := (unhide hL).cell 0; have l1 := (unhide hL).cell 1; have p0 := (unhide hP).cell 0; have p1 := (unhide hP).cell 1
        simp only [List.getElem?_toArray, List.getElem?_cons_zero, List.getElem?_cons_succ] at l0 l1 p0 p1
        have hkI : (k : Int) < (M.length : Int) := by omega
        clear L2 P2 I2
        go_wp2_with fail
        refine (unhide CW k pr pc _ hlt (unhide hR) (unhide hIr)).mono ?_
        rintro e w3 ⟨rr, cc, rfl, hw, hI3, hf3⟩
        have cl := (unhide hL).fr hf3 (by omega); have cp := (unhide hP).fr hf3 (by omega)
        have e0 := cp.cell 0; have e1 := cp.cell 1; have f0 := cp.free 0; have f1 := cp.free 1
        simp only [List.getElem?_toArray, List.getElem?_cons_zero, List.getElem?_cons_succ] at e0 e1
        have I3 := hide (hI3.pbox cp (by omega) 0 1 (.int .u64 (rr : Int)) (.int .u64 (cc : Int)))
        have L3 := hide (cl.other (g := w2.heap.size + 1) (by omega) 0 1 (.int .u64 (rr : Int)) (.int .u64 (cc : Int)))
        have P3 := hide (cp.put (.int .u64 (rr : Int)) (.int .u64 (cc : Int)))
        have R3 := hide ((unhide hR).step hw)
        clear cl cp hI3 hf3 hL hP hIr hR hw l0 l1 p0 p1
        go_wp2_with fail
        go_roundw
        case rel => exact ⟨k + 1, rr, cc, by omega, by go_num, L3, P3, I3, R3⟩
        case measure => simp [intOf]; omega
      · have hkk : k = M.length := by omega
        subst hkk
        have p0 := (unhide hP).cell 0
        simp only [List.getElem?_toArray, List.getElem?_cons_zero] at p0
        have CS := hide (fun w' => size_any pr w' (unhide HB pr pc (unhide hR)))
        have B4 := hide ((unhide B1).trans ((unhide hIr).1.mono (unhide B1).size))
        have FIN := hide (show ∃ pr' pc', RkRun M (width M) M.length pr' pc' ∧ sz pr = sz pr' from ⟨pr, pc, unhide hR, rfl⟩)
        clear hL hP hIr hR L2 P2 I2 CW
        go_wp2_with (go_at_call 107; refine (unhide CS _).mono ?_; rintro e w' ⟨rfl, rfl⟩)
        refine bodyPost_ret (v := .tuple #[.int .i64 (sz pr : Int), .int .i64 0]) (by simp [results, Tryz.results63, go_sem]) rfl ?_
        exact ⟨sz pr, rfl, fun _ => unhide FIN, fun h => absurd rfl h, unhide B4⟩
  · have hr := mChk_range M
    generalize mChk M = ce at *
    have hne : (ce == 0) = false := by simp; exact h0
    clear hs h
    go_enter Tryz.func63, Tryz.ntmps63
    go_wp2_with fail
    refine (unhide C1 _ (unhide HM)).mono ?_
    rintro e w1 ⟨rfl, hb1⟩
    clear C1 HM
    go_wp2_with fail
    refine bodyPost_ret (v := .tuple #[.int .i64 0, .int .i64 ce]) (by simp [results, Tryz.results63, go_sem]) rfl ?_
    exact ⟨0, rfl, fun h => absurd h h0, fun _ => rfl, hb1⟩

end Go.Proofs.YtfnnbkclnflpfaaGreatDoor

/- The places that Rank finds: as many as the rank. -/
namespace Go.Proofs.YtfnnbkclnflpfaaGreatDoor

theorem detD_row (r s : Nat → Int) (rs : List (Nat → Int)) : ∀ (pre : List (Nat → Int)) (cs : List Nat), (∀ c ∈ cs, r c = s c) → detD (pre ++ r :: rs) cs = detD (pre ++ s :: rs) cs
  | [], cs, h => exD_row r s cs _ h
  | p :: pre, cs, h => by
    show exD p cs (detD (pre ++ r :: rs)) = exD p cs (detD (pre ++ s :: rs))
    exact exD_congr p cs _ _ (fun l hl _ => detD_row r s rs pre l (fun c hc => h c (hl.subset hc)))

/-- Columns in another order: the same but for the sign. -/
theorem detD_cols (a : Nat → Nat → Int) (P C C' : List Nat) (hl : P.length = C.length) (h : C.Perm C') : detD (P.map a) C' = 0 → detD (P.map a) C = 0 := by
  intro h0
  have e1 := detD_turn a P.length P C rfl hl.symm
  have e2 := detD_turn a P.length P C' rfl (by rw [hl]; exact h.length_eq.symm)
  obtain ⟨p, _, hp⟩ := detD_perm (h.map (fun j => fun i => a i j))
  have e1' : detD (P.map a) C = detD (C.map (fun j => fun i => a i j)) P := e1
  have e2' : detD (P.map a) C' = detD (C'.map (fun j => fun i => a i j)) P := e2
  rw [e1', hp P, ← e2', h0, Int.mul_zero]

theorem detD_coltwice (a : Nat → Nat → Int) (P Q : List Nat) (c : Nat) (hl : P.length = Q.length + 1) (hc : c ∈ Q) : detD (P.map a) (c :: Q) = 0 := by
  have e1 : detD (P.map a) (c :: Q) = detD ((c :: Q).map (fun j => fun i => a i j)) P := detD_turn a P.length P (c :: Q) rfl (by simp [hl])
  obtain ⟨x, y, rfl⟩ := List.append_of_mem hc
  rw [e1, List.map_cons, List.map_append, List.map_cons]
  exact detD_twice _ _ [] _ P

/-- A sum of rows that are among those ahead, or make no minor with them: nothing. -/
theorem detD_comb (a : Nat → Nat → Int) (pre : List (Nat → Int)) (C : List Nat) : ∀ (P : List Nat) (G : List Nat → Int), (∀ i ∈ P, detD (pre ++ [a i]) C = 0) → detD (pre ++ [fun c => exD (fun i => a i c) P G]) C = 0
  | [], G, _ => detD_nought _ [] C (fun _ _ => rfl) pre
  | i :: P, G, h => by
    have e : detD (pre ++ [fun c => exD (fun i => a i c) (i :: P) G]) C = detD (pre ++ [fun c => G P * a i c + (-1) * exD (fun i => a i c) P (fun l => G (i :: l))]) C := by
      refine detD_row _ _ [] pre C (fun c _ => ?_)
      show a i c * G P - exD (fun i => a i c) P (fun l => G (i :: l)) = _
      rw [Int.mul_comm (a i c)]; omega
    rw [e, detD_lin, h i (by simp), detD_comb a pre C P (fun l => G (i :: l)) (fun j hj => h j (by simp [hj]))]
    simp

/-- One row more: minors of one more row. -/
theorem van_add {j k n : Nat} {a : Nat → Nat → Int} (h : Van j a k n) : Van (j + 1) a (k + 1) n := by
  intro I C hI hC lI lC
  rcases List.eq_nil_or_concat I with rfl | ⟨I', x, rfl⟩
  · simp at lI
  · rw [List.concat_eq_append] at *
    have hI' : ∀ i ∈ I', i < x := fun i hi => (List.pairwise_append.1 hI.1).2.2 i hi x (by simp)
    have hx : x < k + 1 := hI.2 x (by simp)
    have hr : Rise k I' := ⟨(List.pairwise_append.1 hI.1).1, fun i hi => by have := hI' i hi; omega⟩
    unfold minorD
    rw [List.map_append, List.map_cons, List.map_nil, detD_last, detD_cons, exD_congr (a x) C _ (fun _ => 0) (fun l hl hlen => ?_), exD_zero, Int.mul_zero]
    exact h I' l hr (hC.sub hl) (by simpa using lI) (by omega)

/-- A row with which no minor about one that is not 0 is not 0 either: it adds nothing. -/
theorem van_keep {k n : Nat} {a : Nat → Nat → Int} (P Q : List Nat) (hP : ∀ i ∈ P, i < k) (hl : P.length = Q.length) (hd : detD (P.map a) Q ≠ 0) (h0 : ∀ c, c < n → detD ((P ++ [k]).map a) (c :: Q) = 0) (hv : Van (P.length + 1) a k n) : Van (P.length + 1) a (k + 1) n := by
  intro I C hI hC lI lC
  rcases List.eq_nil_or_concat I with rfl | ⟨I', x, rfl⟩
  · simp at lI
  · rw [List.concat_eq_append] at *
    have hI' : ∀ i ∈ I', i < x := fun i hi => (List.pairwise_append.1 hI.1).2.2 i hi x (by simp)
    have hx : x < k + 1 := hI.2 x (by simp)
    have hr : ∀ i ∈ I', i < k := fun i hi => by have := hI' i hi; omega
    by_cases hxk : x < k
    · exact hv _ C ⟨hI.1, fun i hi => by
        rcases List.mem_append.1 hi with h | h
        · exact hr i h
        · simp at h; omega⟩ hC lI lC
    · obtain rfl : x = k := by omega
      unfold minorD
      rw [List.map_append, List.map_cons, List.map_nil]
      -- the row, times the minor, is a sum of rows
      have key : ∀ c, c < n → detD (P.map a) Q * a x c = -((-1) ^ P.length) * exD (fun i => a i c) P (fun l => detD (Q.map (fun j => fun i => a i j)) (l ++ [x])) := by
        intro c hc
        have e1 : detD ((P ++ [x]).map a) (c :: Q) = detD ((c :: Q).map (fun j => fun i => a i j)) (P ++ [x]) := detD_turn a (P.length + 1) (P ++ [x]) (c :: Q) (by simp) (by simp [hl])
        have e2 : detD (P.map a) Q = detD (Q.map (fun j => fun i => a i j)) P := detD_turn a P.length P Q rfl hl.symm
        rw [h0 c hc, List.map_cons, detD_cons, exD_snoc, ← e2] at e1
        generalize exD (fun i => a i c) P (fun l => detD (Q.map (fun j => fun i => a i j)) (l ++ [x])) = u at e1 ⊢
        generalize detD (P.map a) Q = d at e1 ⊢
        generalize a x c = y at e1 ⊢
        rcases parity P.length with ⟨p1, _⟩ | ⟨p1, _⟩
        · rw [p1] at e1 ⊢; rw [Int.mul_comm d y]; omega
        · rw [p1] at e1 ⊢; rw [Int.mul_comm d y]; omega
      have hz : detD (I'.map a ++ [fun c => exD (fun i => a i c) P (fun l => detD (Q.map (fun j => fun i => a i j)) (l ++ [x]))]) C = 0 := by
        refine detD_comb a (I'.map a) C P _ (fun i hi => ?_)
        have := hv.all (I' ++ [i]) C (fun q hq => by
          rcases List.mem_append.1 hq with h | h
          · exact hr q h
          · simp at h; subst h; exact hP _ hi) hC (by simpa using lI) lC
        unfold minorD at this
        simpa using this
      have hs : detD (P.map a) Q * detD (I'.map a ++ [a x]) C = 0 := by
        have e3 : detD (I'.map a ++ [fun c => detD (P.map a) Q * a x c + 0 * a x c]) C = detD (P.map a) Q * detD (I'.map a ++ [a x]) C := by
          rw [detD_lin]; simp
        have e4 : detD (I'.map a ++ [fun c => detD (P.map a) Q * a x c + 0 * a x c]) C = detD (I'.map a ++ [fun c => (-((-1) ^ P.length)) * exD (fun i => a i c) P (fun l => detD (Q.map (fun j => fun i => a i j)) (l ++ [x])) + 0 * a x c]) C := by
          refine detD_row _ _ [] _ C (fun c hc => ?_)
          rw [key c (hC.2 c hc)]
        rw [← e3, e4, detD_lin, hz]; simp
      exact (Int.mul_eq_zero.1 hs).resolve_left hd

theorem ins_perm : ∀ s, s < 64 → ∀ c, c < 6 → s.testBit c = false → (c :: elems s).isPerm (elems (ins s c)) = true := by decide +kernel
theorem mem_elems : ∀ s, s < 64 → ∀ c, c < 6 → s.testBit c = true → c ∈ elems s := by decide +kernel
theorem elems_rise : ∀ s, s < 64 → (elems s).Pairwise (· < ·) := by decide +kernel

theorem rk_math {M : List Rw} {n : Nat} (hn : n ≤ 6) {k pr pc : Nat} (h : RkRun M n k pr pc) (hk : k ≤ 6) : GM M pr pc ≠ 0 ∧ Van (sz pr + 1) (valM M) k n := by
  induction h with
  | start =>
    refine ⟨?_, van_over (.inl (by omega))⟩
    unfold GM; rw [elems_zero]; show (1 : Int) ≠ 0; decide
  | @step k pr pc rr cc hrun hw ih =>
    obtain ⟨hd, hv⟩ := ih (by omega)
    obtain ⟨h1, h2, h3⟩ := rk_bounds hn hrun (by omega)
    have hp64 : pr < 64 := Nat.lt_of_lt_of_le h1 (set_full k (by omega)).2
    have hc64 : pc < 64 := Nat.lt_of_lt_of_le h2 (set_full n hn).2
    obtain ⟨hb, hlt⟩ := bit_out k (by omega) pr h1
    have hpk := (set_width k (by omega) pr h1).2.2.2
    rcases hw with ⟨c, hc, hcb, rfl, rfl, hne⟩ | ⟨rfl, rfl, hz⟩
    · refine ⟨hne, ?_⟩
      rw [(ins_facts pr hp64 k (by omega) hb).2]
      exact van_add hv
    · refine ⟨hd, van_keep (elems rr) (elems cc) hpk h3 hd (fun c hc => ?_) hv⟩
      by_cases hcb : cc.testBit c = true
      · exact detD_coltwice _ _ _ _ (by simp; exact h3) (mem_elems cc hc64 c (by omega) hcb)
      · have hcf : cc.testBit c = false := by simpa using hcb
        refine detD_cols _ _ _ _ (by simp; exact h3) (List.isPerm_iff.1 (ins_perm cc hc64 c (by omega) hcf)) ?_
        have := hz c hc hcf
        unfold GM at this
        rwa [(ins_elems rr hp64 k (by omega) hpk).1] at this

theorem rk_rank {M : List Rw} {n : Nat} (hn : n ≤ 6) {k pr pc : Nat} (h : RkRun M n k pr pc) (hk : k ≤ 6) : IsRank (sz pr) (valM M) k n := by
  obtain ⟨hd, hv⟩ := rk_math hn h hk
  obtain ⟨h1, h2, h3⟩ := rk_bounds hn h hk
  refine ⟨fun hvan => hd ?_, hv⟩
  have hp64 : pr < 64 := Nat.lt_of_lt_of_le h1 (set_full k hk).2
  have hc64 : pc < 64 := Nat.lt_of_lt_of_le h2 (set_full n hn).2
  exact hvan (elems pr) (elems pc) ⟨elems_rise pr hp64, (set_width k hk pr h1).2.2.2⟩ ⟨elems_rise pc hc64, (set_width n hn pc h2).2.2.2⟩ rfl h3.symm

open Go.RowKit in
/-- What Rank answers. -/
theorem rank_any (ao : Option Addr) (cap : Nat) (M : List Rw) (w : World) (h : MatAt w ao cap M) (hs : SmallM M) :
    Calls Tryz.prog 63 #[.slice ao M.length cap] w fun e w' => ∃ k : Nat, e = .returned (.tuple #[.int .i64 (k : Int), .int .i64 (mChk M)]) ∧ (mChk M = 0 → IsRank k (valM M) M.length (width M)) ∧ (mChk M ≠ 0 → k = 0) ∧ Below w.heap.size w w' := by
  refine (rank_run ao cap M w h hs).mono ?_
  rintro e w' ⟨k, h1, h2, h3, h4⟩
  refine ⟨k, h1, fun h0 => ?_, h3, h4⟩
  obtain ⟨pr, pc, hr, rfl⟩ := h2 h0
  have hg := good_of h h0
  exact rk_rank hg.2.1 hr hg.1

end Go.Proofs.YtfnnbkclnflpfaaGreatDoor

/- Package certify: lines walked; Rank. -/
namespace Go.Proofs.YtfnnbkclnflpfaaGreatDoor
open Go.RowKit
attribute [local go_sem ↓] Go.wp_at_zero Go.wp_at_succ

/-- How many numbers stand in row i, when row j has k. -/
def lnC (c j k i : Nat) : Nat := if i < j then c else if i = j then k else 0
theorem lnC_step (c j k i : Nat) : (if i = j then lnC c j k j + 1 else lnC c j k i) = lnC c j (k + 1) i := by
  unfold lnC
  by_cases h : i = j
  · subst h; rw [if_pos rfl, if_neg (by omega), if_pos rfl, if_neg (by omega), if_pos rfl]
  · rw [if_neg h]
    by_cases h2 : i < j
    · rw [if_pos h2, if_pos h2]
    · rw [if_neg h2, if_neg h2, if_neg h, if_neg h]
theorem lnC_row (c j i : Nat) : lnC c j c i = lnC c (j + 1) 0 i := by
  unfold lnC
  by_cases h : i < j
  · rw [if_pos h, if_pos (by omega)]
  · rw [if_neg h]
    by_cases h2 : i = j
    · rw [if_pos h2, if_pos (by omega)]
    · rw [if_neg h2, if_neg (by omega)]
      split <;> rfl
theorem lnC_self (c j k : Nat) : lnC c j k j = k := by unfold lnC; rw [if_neg (by omega), if_pos rfl]

/-- What holds in lines: the grid's box, the rows. -/
def LiSt (w wr : World) (r c rc cap : Nat) (ao : Option Addr) (V : List Value) (cnt : Nat → Nat) (F : Nat → Nat → Int) : Prop :=
  BoxT 89 wr w.heap.size (.int .i64 r) (.int .i64 c) (.slice ao rc cap) ∧ LnAt (w.heap.size + 1 + 1) wr (w.heap.size + 1) r V cnt F ∧ Below w.heap.size w wr
theorem LiSt.all {w wr w' : World} {r c rc cap : Nat} {ao : Option Addr} {V : List Value} {cnt : Nat → Nat} {F : Nat → Nat → Int} (h : LiSt w wr r c rc cap ao V cnt F) (hb : Below wr.heap.size wr w') : LiSt w w' r c rc cap ao V cnt F :=
  ⟨h.1.all hb, h.2.1.below hb, h.2.2.trans (hb.mono h.2.2.size)⟩
theorem LiSt.push {w w4 : World} {r c rc cap : Nat} {ao : Option Addr} {V : List Value} {j k : Nat} {F : Nat → Nat → Int} {po : Option Addr} {pc : Nat} (h : LiSt w w4 r c rc cap ao V (lnC c j k) F) (hj : j < r) (hv : vAt V j = .slice po k pc) (ng : Bool) (a : Option Addr) (l cp : Nat) (hx : IsNum 0 w4 (.agg #[.bool ng, .slice a l cp]) (F j k)) (hn : k ≤ 36) (ty : TypeId) :
    ∃ qo qc w', (Builtin.append_ #[87, 87] ty #[.slice po k pc, .slice (some ⟨w4.heap.size, 0, none⟩) 1 1]).run Tryz.prog (w4.alloc (.cells #[.bool ng, .slice a l cp] 27)) = .ok (.slice qo (k + 1) qc) w' ∧ ((w'.cell? ⟨w.heap.size + 1, j, none⟩ = some (.slice po k pc) ∧ w'.frozen? ⟨w.heap.size + 1, j, none⟩ = false) ∧ LiSt w (w'.setCell ⟨w.heap.size + 1, j, none⟩ (.slice qo (k + 1) qc)) r c rc cap ao (V.set j (.slice qo (k + 1) qc)) (lnC c j (k + 1)) F) := by
  obtain ⟨h1, h2, h3⟩ := h
  have hl := h2.lt
  obtain ⟨qo, qc, w', e1, ⟨c1, c2⟩, hL, hB⟩ := h2.push hj ng a l cp (by rw [lnC_self]; exact hx) (by omega) (by rw [lnC_self]; exact hn) ty
  rw [lnC_self] at e1 hL hB
  rw [hv] at e1 c1
  refine ⟨qo, qc, w', e1, ⟨c1, c2⟩, h1.below hB (by omega), hL.congr (fun i _ => ?_), h3.trans (hB.mono (by omega))⟩
  have := lnC_step c j k i
  rw [lnC_self] at this
  exact this

set_option maxRecDepth 20000 in
set_option maxHeartbeats 8000000 in
theorem lines_of (r c rc cap : Nat) (ao : Option Addr) (F : Nat → Nat → Int) (w : World) (hr : r ≤ 6) (hc : c ≤ 6)
    (C : ∀ w' i k, Below w.heap.size w w' → i < r → k < c → Calls Tryz.prog 111 #[.agg #[.int .i64 r, .int .i64 c, .slice ao rc cap], .int .i64 (i : Nat), .int .i64 (k : Nat)] w' fun e w'' => ∃ v, e = .returned v ∧ IsNum 0 w'' v (F i k) ∧ Below w'.heap.size w' w'') :
    Calls Tryz.prog 65 #[.agg #[.int .i64 r, .int .i64 c, .slice ao rc cap]] w fun e w' => ∃ g V, e = .returned (.slice (some ⟨g, 0, none⟩) r r) ∧ LnAt (g + 1) w' g r V (fun _ => c) F ∧ Below w.heap.size w w' := by
  have K := hide C
  have hmk := run_make_row' (P := Tryz.prog) 86 87 (.slice none 0 0) 24 Tryz.underlying86 (by kernel_rfl) rfl .i64 .i64 r (by omega) (by omega)
  have b0 := below_alloc9 w (.cells #[.int .i64 r, .int .i64 c, .slice ao rc cap] 89)
  have s0 := size_alloc9 w (.cells #[.int .i64 r, .int .i64 c, .slice ao rc cap] 89)
  have x0 := BoxT.new 89 w (.int .i64 r) (.int .i64 c) (.slice ao rc cap)
  have l0 := LnAt.start (w.alloc (.cells #[.int .i64 r, .int .i64 c, .slice ao rc cap] 89)) r F
  have b1 := below_alloc9 (w.alloc (.cells #[.int .i64 r, .int .i64 c, .slice ao rc cap] 89)) (.cells (madeCells #[.slice none 0 0] r) 87)
  rw [s0] at l0
  have ST := hide (show LiSt w _ r c rc cap ao _ (lnC c 0 0) F from ⟨x0.all b1, l0.congr (fun i _ => by unfold lnC; rw [if_neg (by omega)]; split <;> rfl), b0.trans (b1.mono b0.size)⟩)
  clear C b0 b1 s0 x0 l0
  go_enter Tryz.func65, Tryz.ntmps65
  have y0 := (unhide ST).1.c0
  go_wp2_with fail
  clear hmk y0
  go_loopw [11] (fun i wr => ∃ (j : Nat) (V : List Value), j ≤ r ∧ i = .int .i64 j ∧ Hid (LiSt w wr r c rc cap ao V (lnC c j 0) F)) (fun i _ => r - (intOf i).toNat)
  case atStart => exact ⟨0, _, Nat.zero_le _, rfl, ST⟩
  case round =>
    clear ST
    obtain ⟨j, V, hj, rfl, hS⟩ := hrel
    by_cases hlt : j < r
    · have hjI : (j : Int) < (r : Int) := by omega
      have y1 := (unhide hS).1.c1
      go_wp2_with fail
      clear y1
      go_loopw [16] (fun i wr => ∃ (k : Nat) (V : List Value), k ≤ c ∧ i = .int .i64 k ∧ Hid (LiSt w wr r c rc cap ao V (lnC c j k) F)) (fun i _ => c - (intOf i).toNat)
      case atStart => exact ⟨0, V, Nat.zero_le _, rfl, hS⟩
      case round =>
        clear hS
        obtain ⟨k, V, hk, rfl, hS⟩ := hrel
        by_cases hkc : k < c
        · have hkI : (k : Int) < (c : Int) := by omega
          have C := hide (fun w' h => unhide K w' j k h hlt hkc)
          obtain ⟨po, pc, hv⟩ := ((unhide hS).2.1.2.2.2.1 j hlt).slice
          rw [lnC_self] at hv
          have HV := hide hv
          clear hv
          go_wp2_with fail
          refine at_world (fun W => LiSt w W r c rc cap ao V (lnC c j k) F) (unhide hS) ?_
          clear hS
          rintro W0 hS
          replace hS := hS.all ((Below.refl W0.heap.size W0).drew)
          obtain ⟨y2, f2⟩ := hS.2.1.cell hlt
          rw [unhide HV] at y2
          have x0 := hS.1.c0; have x1 := hS.1.c1; have x2 := hS.1.c2
          have SS := hide hS
          have hk36 := hide (show k ≤ 36 by omega)
          have HJ := hide hlt
          clear hS
          go_region_law (first | (refine step_append_ex _ (by rfl) _ _ 87 (by rfl) _ _ _ _ (by rfl) (by rfl) (unhide PU) ?_; rintro qo qc w5 ⟨⟨y2, f2⟩, st⟩; have ST5 := hide st; clear st PU) | (go_simp; refine (unhide C _ (unhide SS).2.2).mono ?_; rintro e w4 ⟨q, rfl, ⟨n4, a4, c4, L4, rfl, i4⟩, hb4⟩; clear y2 f2 x0 x1 x2; have S4 := (unhide SS).all hb4; have Q4 := hide (show IsNum 0 w4 (.agg #[.bool n4, .slice a4 L4.length c4]) (F j k) from ⟨n4, a4, c4, L4, rfl, i4⟩); generalize L4.length = l4 at *; obtain ⟨y2, f2⟩ := S4.2.1.cell (unhide HJ); rw [unhide HV] at y2; have x0 := S4.1.c0; have x1 := S4.1.c1; have x2 := S4.1.c2; have y3 := cell_keep y2 (below_alloc9 w4 (.cells #[.bool n4, .slice a4 l4 c4] 27)); have PU := hide (S4.push (unhide HJ) (unhide HV) n4 a4 l4 c4 (unhide Q4) (unhide hk36) 87); clear i4 hb4 SS S4 Q4))
          all_goals
            go_wp2_with fail
            go_round
            case rel => exact ⟨k + 1, _, by omega, by go_num, ST5⟩
            case measure => simp [intOf]; omega
        · have hkk : k = c := by omega
          subst hkk
          go_wp2_with fail
          go_round
          case rel => exact ⟨j + 1, V, by omega, by go_num, hide ⟨(unhide hS).1, (unhide hS).2.1.congr (fun i _ => lnC_row k j i), (unhide hS).2.2⟩⟩
          case measure => simp [intOf]; omega
    · have hjj : j = r := by omega
      subst hjj
      have HL := hide ((unhide hS).2.1.congr (cnt' := fun _ => c) (fun i hi => by unfold lnC; rw [if_pos hi]))
      have HB := hide (unhide hS).2.2
      clear hS
      go_wp2_with fail
      go_ret
      exact ⟨w.heap.size + 1, V, rfl, unhide HL, unhide HB⟩

theorem lines_any (r c cap : Nat) (ao : Option Addr) (F : Nat → Nat → Int) (w : World) (h : GrW w ao cap r c F) :
    Calls Tryz.prog 65 #[.agg #[.int .i64 r, .int .i64 c, .slice ao (r * c) cap]] w fun e w' => ∃ g V, e = .returned (.slice (some ⟨g, 0, none⟩) r r) ∧ LnAt (g + 1) w' g r V (fun _ => c) F ∧ Below w.heap.size w w' :=
  lines_of r c (r * c) cap ao F w h.2.1 h.2.2 (fun w' i k hb hi hk => wat_any r c cap i k ao F w' (h.below hb) hi hk)

set_option maxRecDepth 20000 in
set_option maxHeartbeats 4000000 in
theorem cRank_of (r c n cap : Nat) (ao : Option Addr) (F : Nat → Nat → Int) (Z : Nat → Prop) (w : World)
    (C1 : ∀ w', Below w.heap.size w w' → Calls Tryz.prog 12 #[.agg #[.int .i64 r, .int .i64 c, .slice ao n cap]] w' fun e w'' => e = .returned (.int .i64 0) ∧ Below w'.heap.size w' w'')
    (C2 : ∀ w', Below w.heap.size w w' → Calls Tryz.prog 64 #[.agg #[.int .i64 r, .int .i64 c, .slice ao n cap]] w' fun e w'' => ∃ ho d, e = .returned (.agg #[.int .i64 r, .int .i64 c, .slice ho (r * c) d]) ∧ GrW w'' ho d r c F ∧ Below w'.heap.size w' w'')
    (C3 : ∀ w' g V, LnAt (g + 1) w' g r V (fun _ => c) F → Calls Tryz.prog 63 #[.slice (some ⟨g, 0, none⟩) r r] w' fun e w'' => ∃ k : Nat, e = .returned (.tuple #[.int .i64 (k : Nat), .int .i64 0]) ∧ Z k ∧ Below w'.heap.size w' w'') :
    Calls Tryz.prog 24 #[.agg #[.int .i64 r, .int .i64 c, .slice ao n cap]] w fun e w' => ∃ k : Nat, e = .returned (.tuple #[.int .i64 (k : Nat), .int .i64 0]) ∧ Z k ∧ Below w.heap.size w w' := by
  have BB := hide (below_alloc9 w (.cells #[.int .i64 r, .int .i64 c, .slice ao n cap] 24))
  have X0 := hide (BoxM.new w (.int .i64 r) (.int .i64 c) (.slice ao n cap))
  have K1 := hide C1; have K2 := hide C2; have K3 := hide C3
  have K4 := hide (fun w' ho d (h : GrW w' ho d r c F) => lines_any r c d ho F w' h)
  clear C1 C2 C3
  generalize r * c = rc at *
  go_enter Tryz.func24, Tryz.ntmps24
  go_wp2_with fail
  refine (unhide K1 _ (unhide BB)).mono ?_
  rintro e w1 ⟨rfl, hb1⟩
  replace BB := hide ((unhide BB).trans (hb1.mono (unhide BB).size)); replace X0 := hide ((unhide X0).all hb1)
  clear hb1 K1
  have y0 := (unhide X0).c0; have y1 := (unhide X0).c1; have y2 := (unhide X0).c2
  go_wp2_with fail
  refine (unhide K2 _ (unhide BB)).mono ?_
  rintro e w2 ⟨ho, d, rfl, hg, hb1⟩
  replace BB := hide ((unhide BB).trans (hb1.mono (unhide BB).size))
  have HG := hide hg
  clear hb1 K2 hg y0 y1 y2 X0
  go_wp2_with fail
  refine (unhide K4 _ _ _ (unhide HG)).mono ?_
  rintro e w3 ⟨g, V, rfl, hl, hb1⟩
  replace BB := hide ((unhide BB).trans (hb1.mono (unhide BB).size))
  have HL := hide hl
  clear hb1 K4 hl HG
  go_wp2_with fail
  refine (unhide K3 _ _ _ (unhide HL)).mono ?_
  rintro e w4 ⟨k, rfl, hz, hb1⟩
  replace BB := hide ((unhide BB).trans (hb1.mono (unhide BB).size))
  have HZ := hide hz
  clear hb1 K3 hz HL
  go_wp2
  exact bodyPost_ret (v := .tuple #[.int .i64 (k : Nat), .int .i64 0]) (by simp [results, Tryz.results24, go_sem]) rfl ⟨k, rfl, unhide HZ, unhide BB⟩

end Go.Proofs.YtfnnbkclnflpfaaGreatDoor

/- Contract of the law's small. -/
namespace Go.Proofs.YtfnnbkclnflpfaaGreatDoor
open Go.RowKit
attribute [local go_sem ↓] Go.wp_at_zero Go.wp_at_succ

/-- The number of memory is z, right, of at most m limbs. -/
def NumIs (m : Nat) (x : Nm) (z : Int) : Prop := rightN x = true ∧ sval x.neg x.L = z ∧ x.L.length ≤ m

theorem IsNumM.parts {m B : Nat} {w : World} {v : Value} {z : Int} (h : IsNumM m B w v z) (hm : m ≤ 512) : ∃ x : Nm, v = .agg #[.bool x.neg, .slice x.ao x.L.length x.cap] ∧ LimbsAt w x.ao x.cap x.L ∧ NewAt B x.ao x.L ∧ NumIs m x z := by
  obtain ⟨neg, ao, cap, L, rfl, h1, h2, h3, h4, h5, h6⟩ := h
  refine ⟨⟨neg, ao, cap, L⟩, rfl, h1, h2, ?_, ?_, h6⟩
  · have e0 : L.length = 0 → neg = false := fun e => by
      have : L = [] := List.length_eq_zero_iff.1 e
      subst this
      rw [h4]; simp [val] at h5; simp; omega
    have e1 : L.length = 0 ∨ L[L.length - 1]?.getD 0 ≠ 0 := by
      rcases h3 with h | h
      · left; rw [h]; rfl
      · exact .inr h
    unfold rightN
    simp only [rightB, Bool.and_eq_true, decide_eq_true_eq, Bool.not_eq_true', Bool.and_eq_false_iff, decide_eq_false_iff_not, Bool.or_eq_true]
    refine ⟨⟨by omega, ?_⟩, e1⟩
    by_cases e : L.length = 0
    · exact .inr (e0 e)
    · exact .inl e
  · unfold sval
    simp only
    rw [h4]
    by_cases hx0 : z < 0
    · simp [hx0]; omega
    · simp [hx0]; omega

/-- A list of whole numbers in memory. -/
structure IR where
  ao : Option Addr
  cap : Nat
  I : List Int
def IR.nil : IR := ⟨none, 0, []⟩
def irAt (Ls : List IR) (i : Nat) : IR := Ls[i]?.getD IR.nil
def IMatAt (w : World) (ao : Option Addr) (cap : Nat) (Ls : List IR) : Prop :=
  Ls.length ≤ cap ∧ (∀ r ∈ Ls, IntsAt w r.ao r.cap r.I ∧ r.I.length ≤ 1000000) ∧ (Ls = [] ∨ ∃ b off, ao = some ⟨b, off, none⟩ ∧ b < w.heap.size ∧ ∀ i, i < Ls.length → w.cell? ⟨b, off + i, none⟩ = some (.slice (irAt Ls i).ao (irAt Ls i).I.length (irAt Ls i).cap))
theorem IMatAt.below {w w' : World} {ao : Option Addr} {cap : Nat} {Ls : List IR} (h : IMatAt w ao cap Ls) (hb : Below w.heap.size w w') : IMatAt w' ao cap Ls := by
  refine ⟨h.1, fun r hr => ⟨(h.2.1 r hr).1.below hb, (h.2.1 r hr).2⟩, ?_⟩
  rcases h.2.2 with e | ⟨b, off, h1, h2, h3⟩
  · exact .inl e
  · refine .inr ⟨b, off, h1, Nat.lt_of_lt_of_le h2 hb.size, fun i hi => ?_⟩
    rw [hb.cell (p := ⟨b, off + i, none⟩) h2]
    exact h3 i hi
theorem IMatAt.ne {w : World} {ao : Option Addr} {cap : Nat} {Ls : List IR} (h : IMatAt w ao cap Ls) (h0 : 0 < Ls.length) : ∃ b off, ao = some ⟨b, off, none⟩ ∧ b < w.heap.size ∧ ∀ i, i < Ls.length → w.cell? ⟨b, off + i, none⟩ = some (.slice (irAt Ls i).ao (irAt Ls i).I.length (irAt Ls i).cap) := by
  rcases h.2.2 with e | e
  · rw [e] at h0; simp at h0
  · exact e

end Go.Proofs.YtfnnbkclnflpfaaGreatDoor

/- Determinants by the first row, as the reference reckons them. -/
namespace Go.Proofs.YtfnnbkclnflpfaaGreatDoor
open Go.RowKit
/-- Places that are some of the first n. -/
def InI (n : Nat) (I : List Int) : Prop := ∀ x ∈ I, 0 ≤ x ∧ x < n
theorem InI.at {n : Nat} {I : List Int} (h : InI n I) {j : Nat} (hj : j < I.length) : ∃ q : Nat, atI I j = (q : Int) ∧ q < n ∧ (natI I)[j]?.getD 0 = q := by
  have h1 := h _ (List.getElem_mem hj)
  refine ⟨(I[j]).toNat, ?_, by omega, ?_⟩
  · unfold atI; rw [List.getElem?_eq_getElem hj]; simp; omega
  · unfold natI; rw [List.getElem?_map, List.getElem?_eq_getElem hj]; rfl
theorem IntsAt.nil (w : World) (ao : Option Addr) (cap : Nat) : IntsAt w ao cap [] := ⟨by simp, by simp, .inl rfl⟩

end Go.Proofs.YtfnnbkclnflpfaaGreatDoor

