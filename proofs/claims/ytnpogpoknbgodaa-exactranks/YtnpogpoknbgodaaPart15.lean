/- Part 15 of the texts. -/
import Derived.Test.YtnpogpoknbgodaaPart14
import Derived.Test.YtnpogpoknbgodaaPart07
import Derived.Test.YtnpogpoknbgodaaPart11
import Derived.WalkSmall
import Derived.Test.YtnpogpoknbgodaaPart10
import Derived.Test.YtnpogpoknbgodaaPart13
import Derived.Deep.RegionHeld3
import Derived.Deep.AppendLies
import Derived.Test.YtnpogpoknbgodaaPart09
import Derived.Test.YtnpogpoknbgodaaPart06
/- The places that Rank finds: as many as the rank. -/
namespace Go.Proofs.Ytnpogpoknbgodaa

theorem detD_row (r s : Nat → Int) (rs : List (Nat → Int)) : ∀ (pre : List (Nat → Int)) (cs : List Nat), (∀ c ∈ cs, r c = s c) → detD (pre ++ r :: rs) cs = detD (pre ++ s :: rs) cs
  | [], cs, h => exD_row r s cs _ h
  | p :: pre, cs, h => by
    show exD p cs (detD (pre ++ r :: rs)) = exD p cs (detD (pre ++ s :: rs))
    exact exD_congr p cs _ _ (fun l hl _ => detD_row r s rs pre l (fun c hc => h c (hl.subset hc)))

/-- Columns in another order: the same but for the sign. -/
theorem detD_cols (a : Nat → Nat → Int) (P C C' : List Nat) (hl : P.length = C.length) (h : C.Perm C') : detD (P.map a) C' = 0 → detD (P.map a) C = 0 := by
  intro h0
  have e1 := detD_turn a P.length P C rfl hl.symm
  have e2 := detD_turn a P.length P C' rfl (by rw [hl]; exact h.length_eq.symm)
  obtain ⟨p, _, hp⟩ := detD_perm (h.map (fun j => fun i => a i j))
  have e1' : detD (P.map a) C = detD (C.map (fun j => fun i => a i j)) P := e1
  have e2' : detD (P.map a) C' = detD (C'.map (fun j => fun i => a i j)) P := e2
  rw [e1', hp P, ← e2', h0, Int.mul_zero]

theorem detD_coltwice (a : Nat → Nat → Int) (P Q : List Nat) (c : Nat) (hl : P.length = Q.length + 1) (hc : c ∈ Q) : detD (P.map a) (c :: Q) = 0 := by
  have e1 : detD (P.map a) (c :: Q) = detD ((c :: Q).map (fun j => fun i => a i j)) P := detD_turn a P.length P (c :: Q) rfl (by simp [hl])
  obtain ⟨x, y, rfl⟩ := List.append_of_mem hc
  rw [e1, List.map_cons, List.map_append, List.map_cons]
  exact detD_twice _ _ [] _ P

/-- A sum of rows that are among those ahead, or make no minor with them: nothing. -/
theorem detD_comb (a : Nat → Nat → Int) (pre : List (Nat → Int)) (C : List Nat) : ∀ (P : List Nat) (G : List Nat → Int), (∀ i ∈ P, detD (pre ++ [a i]) C = 0) → detD (pre ++ [fun c => exD (fun i => a i c) P G]) C = 0
  | [], G, _ => detD_nought _ [] C (fun _ _ => rfl) pre
  | i :: P, G, h => by
    have e : detD (pre ++ [fun c => exD (fun i => a i c) (i :: P) G]) C = detD (pre ++ [fun c => G P * a i c + (-1) * exD (fun i => a i c) P (fun l => G (i :: l))]) C := by
      refine detD_row _ _ [] pre C (fun c _ => ?_)
      show a i c * G P - exD (fun i => a i c) P (fun l => G (i :: l)) = _
      rw [Int.mul_comm (a i c)]; omega
    rw [e, detD_lin, h i (by simp), detD_comb a pre C P (fun l => G (i :: l)) (fun j hj => h j (by simp [hj]))]
    simp

/-- One row more: minors of one more row. -/
theorem van_add {j k n : Nat} {a : Nat → Nat → Int} (h : Van j a k n) : Van (j + 1) a (k + 1) n := by
  intro I C hI hC lI lC
  rcases List.eq_nil_or_concat I with rfl | ⟨I', x, rfl⟩
  · simp at lI
  · rw [List.concat_eq_append] at *
    have hI' : ∀ i ∈ I', i < x := fun i hi => (List.pairwise_append.1 hI.1).2.2 i hi x (by simp)
    have hx : x < k + 1 := hI.2 x (by simp)
    have hr : Rise k I' := ⟨(List.pairwise_append.1 hI.1).1, fun i hi => by have := hI' i hi; omega⟩
    unfold minorD
    rw [List.map_append, List.map_cons, List.map_nil, detD_last, detD_cons, exD_congr (a x) C _ (fun _ => 0) (fun l hl hlen => ?_), exD_zero, Int.mul_zero]
    exact h I' l hr (hC.sub hl) (by simpa using lI) (by omega)

/-- A row with which no minor about one that is not 0 is not 0 either: it adds nothing. -/
theorem van_keep {k n : Nat} {a : Nat → Nat → Int} (P Q : List Nat) (hP : ∀ i ∈ P, i < k) (hl : P.length = Q.length) (hd : detD (P.map a) Q ≠ 0) (h0 : ∀ c, c < n → detD ((P ++ [k]).map a) (c :: Q) = 0) (hv : Van (P.length + 1) a k n) : Van (P.length + 1) a (k + 1) n := by
  intro I C hI hC lI lC
  rcases List.eq_nil_or_concat I with rfl | ⟨I', x, rfl⟩
  · simp at lI
  · rw [List.concat_eq_append] at *
    have hI' : ∀ i ∈ I', i < x := fun i hi => (List.pairwise_append.1 hI.1).2.2 i hi x (by simp)
    have hx : x < k + 1 := hI.2 x (by simp)
    have hr : ∀ i ∈ I', i < k := fun i hi => by have := hI' i hi; omega
    by_cases hxk : x < k
    · exact hv _ C ⟨hI.1, fun i hi => by
        rcases List.mem_append.1 hi with h | h
        · exact hr i h
        · simp at h; omega⟩ hC lI lC
    · obtain rfl : x = k := by omega
      unfold minorD
      rw [List.map_append, List.map_cons, List.map_nil]
      -- the row, times the minor, is a sum of rows
      have key : ∀ c, c < n → detD (P.map a) Q * a x c = -((-1) ^ P.length) * exD (fun i => a i c) P (fun l => detD (Q.map (fun j => fun i => a i j)) (l ++ [x])) := by
        intro c hc
        have e1 : detD ((P ++ [x]).map a) (c :: Q) = detD ((c :: Q).map (fun j => fun i => a i j)) (P ++ [x]) := detD_turn a (P.length + 1) (P ++ [x]) (c :: Q) (by simp) (by simp [hl])
        have e2 : detD (P.map a) Q = detD (Q.map (fun j => fun i => a i j)) P := detD_turn a P.length P Q rfl hl.symm
        rw [h0 c hc, List.map_cons, detD_cons, exD_snoc, ← e2] at e1
        generalize exD (fun i => a i c) P (fun l => detD (Q.map (fun j => fun i => a i j)) (l ++ [x])) = u at e1 ⊢
        generalize detD (P.map a) Q = d at e1 ⊢
        generalize a x c = y at e1 ⊢
        rcases parity P.length with ⟨p1, _⟩ | ⟨p1, _⟩
        · rw [p1] at e1 ⊢; rw [Int.mul_comm d y]; omega
        · rw [p1] at e1 ⊢; rw [Int.mul_comm d y]; omega
      have hz : detD (I'.map a ++ [fun c => exD (fun i => a i c) P (fun l => detD (Q.map (fun j => fun i => a i j)) (l ++ [x]))]) C = 0 := by
        refine detD_comb a (I'.map a) C P _ (fun i hi => ?_)
        have := hv.all (I' ++ [i]) C (fun q hq => by
          rcases List.mem_append.1 hq with h | h
          · exact hr q h
          · simp at h; subst h; exact hP _ hi) hC (by simpa using lI) lC
        unfold minorD at this
        simpa using this
      have hs : detD (P.map a) Q * detD (I'.map a ++ [a x]) C = 0 := by
        have e3 : detD (I'.map a ++ [fun c => detD (P.map a) Q * a x c + 0 * a x c]) C = detD (P.map a) Q * detD (I'.map a ++ [a x]) C := by
          rw [detD_lin]; simp
        have e4 : detD (I'.map a ++ [fun c => detD (P.map a) Q * a x c + 0 * a x c]) C = detD (I'.map a ++ [fun c => (-((-1) ^ P.length)) * exD (fun i => a i c) P (fun l => detD (Q.map (fun j => fun i => a i j)) (l ++ [x])) + 0 * a x c]) C := by
          refine detD_row _ _ [] _ C (fun c hc => ?_)
          rw [key c (hC.2 c hc)]
        rw [← e3, e4, detD_lin, hz]; simp
      exact (Int.mul_eq_zero.1 hs).resolve_left hd

theorem ins_perm : ∀ s, s < 64 → ∀ c, c < 6 → s.testBit c = false → (c :: elems s).isPerm (elems (ins s c)) = true := by decide +kernel
theorem mem_elems : ∀ s, s < 64 → ∀ c, c < 6 → s.testBit c = true → c ∈ elems s := by decide +kernel
theorem elems_rise : ∀ s, s < 64 → (elems s).Pairwise (· < ·) := by decide +kernel

theorem rk_math {M : List Rw} {n : Nat} (hn : n ≤ 6) {k pr pc : Nat} (h : RkRun M n k pr pc) (hk : k ≤ 6) : GM M pr pc ≠ 0 ∧ Van (sz pr + 1) (valM M) k n := by
  induction h with
  | start =>
    refine ⟨?_, van_over (.inl (by omega))⟩
    unfold GM; rw [elems_zero]; show (1 : Int) ≠ 0; decide
  | @step k pr pc rr cc hrun hw ih =>
    obtain ⟨hd, hv⟩ := ih (by omega)
    obtain ⟨h1, h2, h3⟩ := rk_bounds hn hrun (by omega)
    have hp64 : pr < 64 := Nat.lt_of_lt_of_le h1 (set_full k (by omega)).2
    have hc64 : pc < 64 := Nat.lt_of_lt_of_le h2 (set_full n hn).2
    obtain ⟨hb, hlt⟩ := bit_out k (by omega) pr h1
    have hpk := (set_width k (by omega) pr h1).2.2.2
    rcases hw with ⟨c, hc, hcb, rfl, rfl, hne⟩ | ⟨rfl, rfl, hz⟩
    · refine ⟨hne, ?_⟩
      rw [(ins_facts pr hp64 k (by omega) hb).2]
      exact van_add hv
    · refine ⟨hd, van_keep (elems rr) (elems cc) hpk h3 hd (fun c hc => ?_) hv⟩
      by_cases hcb : cc.testBit c = true
      · exact detD_coltwice _ _ _ _ (by simp; exact h3) (mem_elems cc hc64 c (by omega) hcb)
      · have hcf : cc.testBit c = false := by simpa using hcb
        refine detD_cols _ _ _ _ (by simp; exact h3) (List.isPerm_iff.1 (ins_perm cc hc64 c (by omega) hcf)) ?_
        have := hz c hc hcf
        unfold GM at this
        rwa [(ins_elems rr hp64 k (by omega) hpk).1] at this

theorem rk_rank {M : List Rw} {n : Nat} (hn : n ≤ 6) {k pr pc : Nat} (h : RkRun M n k pr pc) (hk : k ≤ 6) : IsRank (sz pr) (valM M) k n := by
  obtain ⟨hd, hv⟩ := rk_math hn h hk
  obtain ⟨h1, h2, h3⟩ := rk_bounds hn h hk
  refine ⟨fun hvan => hd ?_, hv⟩
  have hp64 : pr < 64 := Nat.lt_of_lt_of_le h1 (set_full k hk).2
  have hc64 : pc < 64 := Nat.lt_of_lt_of_le h2 (set_full n hn).2
  exact hvan (elems pr) (elems pc) ⟨elems_rise pr hp64, (set_width k hk pr h1).2.2.2⟩ ⟨elems_rise pc hc64, (set_width n hn pc h2).2.2.2⟩ rfl h3.symm

open Go.RowKit in
/-- What Rank answers. -/
theorem rank_any (ao : Option Addr) (cap : Nat) (M : List Rw) (w : World) (h : MatAt w ao cap M) (hs : SmallM M) :
    Calls Try.prog 7 #[.slice ao M.length cap] w fun e w' => ∃ k : Nat, e = .returned (.tuple #[.int .i64 (k : Int), .int .i64 (mChk M)]) ∧ (mChk M = 0 → IsRank k (valM M) M.length (width M)) ∧ (mChk M ≠ 0 → k = 0) ∧ Below w.heap.size w w' := by
  refine (rank_run ao cap M w h hs).mono ?_
  rintro e w' ⟨k, h1, h2, h3, h4⟩
  refine ⟨k, h1, fun h0 => ?_, h3, h4⟩
  obtain ⟨pr, pc, hr, rfl⟩ := h2 h0
  have hg := good_of h h0
  exact rk_rank hg.2.1 hr hg.1

end Go.Proofs.Ytnpogpoknbgodaa

/- Contract of the law's small. -/
namespace Go.Proofs.Ytnpogpoknbgodaa
open Go.RowKit
attribute [local go_sem ↓] Go.wp_at_zero Go.wp_at_succ

/-- The number of memory is z, right, of at most m limbs. -/
def NumIs (m : Nat) (x : Nm) (z : Int) : Prop := rightN x = true ∧ sval x.neg x.L = z ∧ x.L.length ≤ m

theorem IsNumM.parts {m B : Nat} {w : World} {v : Value} {z : Int} (h : IsNumM m B w v z) (hm : m ≤ 512) : ∃ x : Nm, v = .agg #[.bool x.neg, .slice x.ao x.L.length x.cap] ∧ LimbsAt w x.ao x.cap x.L ∧ NewAt B x.ao x.L ∧ NumIs m x z := by
  obtain ⟨neg, ao, cap, L, rfl, h1, h2, h3, h4, h5, h6⟩ := h
  refine ⟨⟨neg, ao, cap, L⟩, rfl, h1, h2, ?_, ?_, h6⟩
  · have e0 : L.length = 0 → neg = false := fun e => by
      have : L = [] := List.length_eq_zero_iff.1 e
      subst this
      rw [h4]; simp [val] at h5; simp; omega
    have e1 : L.length = 0 ∨ L[L.length - 1]?.getD 0 ≠ 0 := by
      rcases h3 with h | h
      · left; rw [h]; rfl
      · exact .inr h
    unfold rightN
    simp only [rightB, Bool.and_eq_true, decide_eq_true_eq, Bool.not_eq_true', Bool.and_eq_false_iff, decide_eq_false_iff_not, Bool.or_eq_true]
    refine ⟨⟨by omega, ?_⟩, e1⟩
    by_cases e : L.length = 0
    · exact .inr (e0 e)
    · exact .inl e
  · unfold sval
    simp only
    rw [h4]
    by_cases hx0 : z < 0
    · simp [hx0]; omega
    · simp [hx0]; omega

/-- A list of whole numbers in memory. -/
structure IR where
  ao : Option Addr
  cap : Nat
  I : List Int
def IR.nil : IR := ⟨none, 0, []⟩
def irAt (Ls : List IR) (i : Nat) : IR := Ls[i]?.getD IR.nil
def IMatAt (w : World) (ao : Option Addr) (cap : Nat) (Ls : List IR) : Prop :=
  Ls.length ≤ cap ∧ (∀ r ∈ Ls, IntsAt w r.ao r.cap r.I ∧ r.I.length ≤ 1000000) ∧ (Ls = [] ∨ ∃ b off, ao = some ⟨b, off, none⟩ ∧ b < w.heap.size ∧ ∀ i, i < Ls.length → w.cell? ⟨b, off + i, none⟩ = some (.slice (irAt Ls i).ao (irAt Ls i).I.length (irAt Ls i).cap))
theorem irAt_mem {Ls : List IR} {i : Nat} (h : i < Ls.length) : irAt Ls i ∈ Ls := by
  unfold irAt; rw [List.getElem?_eq_getElem h]; exact List.getElem_mem h
theorem IMatAt.below {w w' : World} {ao : Option Addr} {cap : Nat} {Ls : List IR} (h : IMatAt w ao cap Ls) (hb : Below w.heap.size w w') : IMatAt w' ao cap Ls := by
  refine ⟨h.1, fun r hr => ⟨(h.2.1 r hr).1.below hb, (h.2.1 r hr).2⟩, ?_⟩
  rcases h.2.2 with e | ⟨b, off, h1, h2, h3⟩
  · exact .inl e
  · refine .inr ⟨b, off, h1, Nat.lt_of_lt_of_le h2 hb.size, fun i hi => ?_⟩
    rw [hb.cell (p := ⟨b, off + i, none⟩) h2]
    exact h3 i hi
theorem IMatAt.ne {w : World} {ao : Option Addr} {cap : Nat} {Ls : List IR} (h : IMatAt w ao cap Ls) (h0 : 0 < Ls.length) : ∃ b off, ao = some ⟨b, off, none⟩ ∧ b < w.heap.size ∧ ∀ i, i < Ls.length → w.cell? ⟨b, off + i, none⟩ = some (.slice (irAt Ls i).ao (irAt Ls i).I.length (irAt Ls i).cap) := by
  rcases h.2.2 with e | e
  · rw [e] at h0; simp at h0
  · exact e

/-- The row r says what the list I says, the first k of it. -/
def RowIs (R : List Nm) (I : List Int) (k : Nat) : Prop := R.length = k ∧ ∀ j, j < k → NumIs 2 (nmAt R j) (atI I j)

theorem nmAt_snoc (R : List Nm) (x : Nm) (j : Nat) : nmAt (R ++ [x]) j = if j < R.length then nmAt R j else if j = R.length then x else Nm.nil := by
  unfold nmAt
  by_cases h : j < R.length
  · rw [if_pos h, List.getElem?_append_left h]
  · rw [if_neg h]
    by_cases e : j = R.length
    · subst e; simp
    · rw [if_neg e, List.getElem?_eq_none (by simp; omega)]; rfl
theorem rwAt_snoc (M : List Rw) (x : Rw) (j : Nat) : rwAt (M ++ [x]) j = if j < M.length then rwAt M j else if j = M.length then x else Rw.nil := by
  unfold rwAt
  by_cases h : j < M.length
  · rw [if_pos h, List.getElem?_append_left h]
  · rw [if_neg h]
    by_cases e : j = M.length
    · subst e; simp
    · rw [if_neg e, List.getElem?_eq_none (by simp; omega)]; rfl
theorem RowIs.snoc {R : List Nm} {I : List Int} {k : Nat} {x : Nm} (h : RowIs R I k) (hx : NumIs 2 x (atI I k)) : RowIs (R ++ [x]) I (k + 1) := by
  refine ⟨by simp [h.1], fun j hj => ?_⟩
  rw [nmAt_snoc, h.1]
  by_cases e : j < k
  · rw [if_pos e]; exact h.2 j e
  · obtain rfl : j = k := by omega
    rw [if_neg e, if_pos rfl]; exact hx

/-- The rows M say what the lists say, the first k of them. -/
def MatIs (M : List Rw) (Ls : List IR) (k : Nat) : Prop := M.length = k ∧ ∀ i, i < k → RowIs (rwAt M i).R (irAt Ls i).I (irAt Ls i).I.length
theorem MatIs.snoc {M : List Rw} {Ls : List IR} {k : Nat} {r : Rw} (h : MatIs M Ls k) (hr : RowIs r.R (irAt Ls k).I (irAt Ls k).I.length) : MatIs (M ++ [r]) Ls (k + 1) := by
  refine ⟨by simp [h.1], fun j hj => ?_⟩
  rw [rwAt_snoc, h.1]
  by_cases e : j < k
  · rw [if_pos e]; exact h.2 j e
  · obtain rfl : j = k := by omega
    rw [if_neg e, if_pos rfl]; exact hr

theorem infoWhole : (Try.prog.info? 35).map (fun i => (i.zero, i.size, i.bytes)) = some (some (.agg #[.bool false, .slice none 0 0]), 2, 32) := by kernel_rfl
theorem infoRow : (Try.prog.info? 32).map (fun i => (i.zero, i.size, i.bytes)) = some (some (.slice none 0 0), 1, 24) := by kernel_rfl

/-- What holds in the loop over one list. -/
def SmI (w : World) (B : Nat) (v3 v5 : Value) (M : List Rw) (R : List Nm) (wr : World) : Prop :=
  OwnRows w.heap.size wr v3 M ∧ OwnNums B wr v5 R ∧ (∀ x ∈ R, NewAt B x.ao x.L) ∧ Below w.heap.size w wr ∧ B ≤ wr.heap.size

set_option maxHeartbeats 8000000 in
theorem small_any (ao : Option Addr) (cap : Nat) (Ls : List IR) (w : World) (h : IMatAt w ao cap Ls) (hl : Ls.length ≤ 1000000) :
    Calls Try.prog 15 #[.slice ao Ls.length cap] w fun e w' => ∃ ao' cap' M, e = .returned (.slice ao' M.length cap') ∧ MatAt w' ao' cap' M ∧ MatIs M Ls Ls.length ∧ Below w.heap.size w w' := by
  obtain ⟨i0, hi, hz0, hz1, hz2⟩ := info_parts infoWhole
  obtain ⟨j0, hj, hy0, hy1, hy2⟩ := info_parts infoRow
  have HM := hide h
  clear h
  go_enter Try.func15, Try.ntmps15
  go_wp2_with fail
  go_loopw [3, 4] (fun v i wr => ∃ (k : Nat) (M : List Rw), k ≤ Ls.length ∧ i = .int .i64 k ∧ Hid (OwnRows w.heap.size wr v M) ∧ Hid (MatIs M Ls k) ∧ Hid (Below w.heap.size w wr)) (fun _ i _ => Ls.length - (intOf i).toNat)
  case atStart => exact ⟨0, [], Nat.zero_le _, rfl, hide (OwnRows.start w _ (Nat.le_refl _)), hide ⟨rfl, fun i hi => by omega⟩, hide ((Below.refl _ _).alloc (Nat.le_refl _) _)⟩
  case round =>
    obtain ⟨k, M, hk, rfl, hO, hMI, hB⟩ := hrel
    by_cases hlt : k < Ls.length
    · have hkI : (k : Int) < (Ls.length : Int) := by omega
      obtain ⟨v3, hv3⟩ : ∃ v3, u3 = v3 := ⟨_, rfl⟩
      subst hv3
      obtain ⟨B, hBd⟩ : ∃ B, wr.heap.size = B := ⟨_, rfl⟩
      have hBw : w.heap.size ≤ B := by have := (unhide hB).size; omega
      have HAV := hide (fun g (hg : B ≤ g) r (hr : r ∈ M) => AvR.new ((unhide hO).2 r hr).1 (g := g) (by omega))
      have HOB := hide (fun m (hm : u3.ownBlock = some m) => (show m < B by have := (unhide hO).lt m hm; omega))
      obtain ⟨b, off, hao, hbb, hc⟩ := ((unhide HM)).ne (by omega)
      have hck := hc k hlt
      have hIk := (unhide HM).2.1 _ (irAt_mem hlt)
      obtain ⟨I, hI⟩ : ∃ I, (irAt Ls k).I = I := ⟨_, rfl⟩
      have HML := hide (unhide hMI).1
      have HMS := hide (fun r (hr : RowIs r.R I I.length) => (unhide hMI).snoc (r := r) (by rw [hI]; exact hr))
      rw [hI] at hck hIk
      have HCK := hide (fun w' (h : Below w.heap.size w w') => (show w'.cell? ⟨b, off + k, none⟩ = some (.slice (irAt Ls k).ao I.length (irAt Ls k).cap) by rw [h.cell (p := ⟨b, off + k, none⟩) hbb]; exact hck))
      have HIN := hide (fun w' (h : Below w.heap.size w w') => hIk.1.below h)
      have hIl := hIk.2
      have HS := hide (show SmI w B u3 (.slice (some ⟨B, 0, none⟩) 0 0) M [] (wr.alloc (.cells #[] 35)) from by
        have hs := OwnNums.start wr B (by omega)
        rw [hBd] at hs
        exact ⟨(unhide hO).below ((Below.refl _ _).alloc (Nat.le_refl _) _), hs, by simp, (unhide hB).alloc (by omega) _, by simp; omega⟩)
      generalize (irAt Ls k).ao = ai at *
      generalize (irAt Ls k).cap = ci at *
      subst hao
      clear hc hck hIk hI hO hMI hB
      go_wp2_with fail
      clear hBd
      go_loopw [5, 6] (fun v i wq => ∃ (c : Nat) (R : List Nm), c ≤ I.length ∧ i = .int .i64 c ∧ Hid (SmI w B u3 v M R wq) ∧ Hid (RowIs R I c)) (fun _ i _ => I.length - (intOf i).toNat)
      case atStart => exact ⟨0, [], Nat.zero_le _, rfl, HS, hide ⟨rfl, fun j hj => by omega⟩⟩
      case round =>
        obtain ⟨c, R, hc, rfl, hSm, hRI⟩ := hrel
        obtain ⟨v5, hv5⟩ : ∃ v5, u5 = v5 := ⟨_, rfl⟩
        subst hv5
        have hbw := (unhide hSm).2.2.2.1
        have hBs := (unhide hSm).2.2.2.2
        have hck := unhide HCK _ hbw
        by_cases hcl : c < I.length
        · obtain ⟨bi, oi, hai, hbi, hci⟩ := (unhide HIN _ hbw).ne (by omega)
          have hcc := hci c hcl
          have hwf := (unhide HIN _ hbw).wf c
          change wr.cell? ⟨bi, oi + c, none⟩ = some (.int .i64 (atI I c)) at hcc
          obtain ⟨z, hz⟩ : ∃ z, atI I c = z := ⟨_, rfl⟩
          rw [hz] at hcc hwf
          have HRS := hide (fun x (hx : NumIs 2 x z) => (unhide hRI).snoc (x := x) (by rw [hz]; exact hx))
          have hcI : (c : Int) < (I.length : Int) := by omega
          have hRl := (unhide hRI).1
          subst hai
          clear hci hz hRI HS
          go_wp2_with fail
          refine (refOf_any z _ hwf.1 hwf.2).mono ?_
          rintro e w1 ⟨v, rfl, iv, hb1⟩
          obtain ⟨x, rfl, x1, x2, x3⟩ := iv.parts (by decide)
          have o1 := (unhide hSm).2.1.below hb1
          have r1 := (unhide hSm).1.below hb1
          have n1 := (unhide hSm).2.2.1
          have hb2 := hbw.trans (hb1.mono hbw.size)
          have hbA : Below w1.heap.size w1 (w1.alloc (.cells #[.bool x.neg, .slice x.ao x.L.length x.cap] 35)) := (Below.refl _ _).alloc (Nat.le_refl _) _
          have hB1 : B ≤ w1.heap.size := Nat.le_trans hBs hb1.size
          have O1 := hide (o1.below hbA)
          have hx1 := hide (x1.below hbA)
          have hav : Av u5.ownBlock x := Av.old x2 (fun m hm => ((unhide hSm).2.1.lt m hm).2)
          have FIN := hide (fun v' w2 (ho : w2.ownsRow B 35 2 v' (R.length + 1) (numCells R ++ [.bool x.neg, .slice x.ao x.L.length x.cap])) (hg : (w1.alloc (.cells #[.bool x.neg, .slice x.ao x.L.length x.cap] 35)).grownBy w2 u5.ownBlock) (hloc : v'.ownBlock = u5.ownBlock ∨ v'.ownBlock = some (w1.alloc (.cells #[.bool x.neg, .slice x.ao x.L.length x.cap] 35)).heap.size) =>
            (show SmI w B u3 v' M (R ++ [x]) w2 from
              ⟨(r1.below hbA).grown hg (fun m hm e => by have h1 := unhide HOB m hm; have h2 := (o1.lt m e.symm).1; omega) (fun r hr => by
                  cases hv : u5.ownBlock with
                  | none => exact AvR.none (((r1.below hbA).2 r hr).1)
                  | some g => exact unhide HAV g (o1.lt g hv).1 r hr),
               (unhide O1).snoc (unhide hx1) hav ho hg hloc,
               fun y hy => by
                 rcases List.mem_append.1 hy with h | h
                 · exact n1 y h
                 · simp at h; subst h; exact x2.mono (by omega),
               below_of_grown (hb2.trans (hbA.mono hb2.size)) hg (by have := hb2.size; simp; omega) (fun m hm => by have := (o1.lt m hm).1; omega), by have := hg.size; simp at this; omega⟩))
          have hRl' : R.length ≤ 1000000 := by omega
          clear o1 r1 n1 x1 hb1 iv hSm hav
          go_wp2_with (at_builtin; refine wpList_append_own_at _ rfl _ _ 32 rfl B 35 i0 (.agg #[.bool false, .slice none 0 0]) 2 32 Try.underlying32 hi hz0 hz1 hz2 rfl (by decide) _ _ _ rfl (unhide O1).1 ⟨w1.heap.size, 0, none⟩ 1 1 [.bool x.neg, .slice x.ao x.L.length x.cap] rfl rfl (cell_two_new _ _ _ _) (fun u hu => by simp at hu; rcases hu with rfl | rfl <;> rfl) (by unfold maxLen; omega) (by omega) (by simp; omega) ?_; intro v' w2 hown' hgrow _ hloc; have SM2 := hide (unhide FIN v' w2 hown' hgrow hloc); clear hown' hgrow hloc)
          have RS2 := unhide HRS x x3
          go_roundw
          case rel => exact ⟨c + 1, R ++ [x], by omega, by go_num, SM2, hide RS2⟩
          case measure => simp [intOf]; omega
        · have hcc : c = I.length := by omega
          subst hcc
          obtain ⟨a5, c5, e5, q1, q2⟩ := (unhide hSm).2.1.nums
          subst e5
          have r1 := (unhide hSm).1
          have n1 := (unhide hSm).2.2.1
          have hbA : Below wr.heap.size wr (wr.alloc (.cells #[.slice a5 R.length c5] 32)) := (Below.refl _ _).alloc (Nat.le_refl _) _
          have O1 := hide (r1.below hbA)
          have Q1 := hide (q1.below hbA)
          have hav : AvR u3.ownBlock ⟨a5, c5, R⟩ := by
            refine ⟨?_, fun x hx => Av.old (n1 x hx) (fun m hm => unhide HOB m hm)⟩
            rcases q2 with e | ⟨b', off', e, hb'⟩
            · left; simpa using e
            · exact .inr ⟨b', off', e, fun e => by have := unhide HOB b' e.symm; omega⟩
          have HAVR := hide hav
          have MS2 := hide (unhide HMS ⟨a5, c5, R⟩ (unhide hRI))
          have hMl : M.length = k := (unhide HML)
          have FIN := hide (fun v' w2 (ho : w2.ownsRow w.heap.size 32 1 v' (M.length + 1) (M.map Rw.v ++ [.slice a5 R.length c5])) (hg : (wr.alloc (.cells #[.slice a5 R.length c5] 32)).grownBy w2 u3.ownBlock) (hloc : v'.ownBlock = u3.ownBlock ∨ v'.ownBlock = some (wr.alloc (.cells #[.slice a5 R.length c5] 32)).heap.size) =>
            (show OwnRows w.heap.size w2 v' (M ++ [⟨a5, c5, R⟩]) ∧ Below w.heap.size w w2 from
              ⟨(unhide O1).snoc (r := ⟨a5, c5, R⟩) (unhide Q1) (unhide HAVR) ho hg hloc, below_of_grown (hbw.trans (hbA.mono hbw.size)) hg (by have := hbw.size; simp; omega) (fun m hm => (r1.lt m hm).1)⟩))
          clear q1 q2 r1 n1 hav hSm hRI HS HMS
          go_wp2_with (at_builtin; refine wpList_append_own_at _ rfl _ _ 22 rfl w.heap.size 32 j0 (.slice none 0 0) 1 24 Try.underlying22 hj hy0 hy1 hy2 rfl (by decide) _ _ _ rfl (unhide O1).1 ⟨wr.heap.size, 0, none⟩ 1 1 [.slice a5 R.length c5] rfl rfl (cell_one_new _ _ _) (fun u hu => by simp at hu; subst hu; rfl) (by unfold maxLen; omega) (by omega) (by have := hbw.size; simp; omega) ?_; intro v' w2 hown' hgrow _ hloc; have SM2 := hide (unhide FIN v' w2 hown' hgrow hloc); clear hown' hgrow hloc)
          go_roundw
          case rel => exact ⟨k + 1, M ++ [⟨a5, c5, R⟩], by omega, by go_num, hide (unhide SM2).1, MS2, hide (unhide SM2).2⟩
          case measure => simp [intOf]; omega
    · have hkk : k = Ls.length := by omega
      subst hkk
      obtain ⟨a5, c5, e5, q1, q2⟩ := (unhide hO).mat
      subst e5
      have Q1 := hide q1
      clear q1 q2 hO
      go_wp2_with fail
      go_ret
      exact ⟨a5, c5, M, rfl, unhide Q1, unhide hMI, unhide hB⟩

end Go.Proofs.Ytnpogpoknbgodaa

/- Contract of the reference's less. -/
namespace Go.Proofs.Ytnpogpoknbgodaa
open Go.RowKit
attribute [local go_sem ↓] Go.wp_at_zero Go.wp_at_succ

theorem refSub_num {B B' : Nat} {w : World} {v u : Value} {x y : Int} (hv : IsNum B w v x) (hu : IsNum B' w u y) (hx : x.natAbs < TOP) (hy : y.natAbs < TOP) :
    Calls Try.prog 41 #[v, u] w fun e w' => ∃ r, e = .returned r ∧ IsNum w.heap.size w' r (x - y) ∧ Below w.heap.size w w' := by
  obtain ⟨na, ao, ca, A, rfl, a1, a2, a3, a4⟩ := hv.right hx
  obtain ⟨nb, bo, cb, C, rfl, b1, b2, b3, b4⟩ := hu.right hy
  have h1 := (right_canon a2).1
  have h2 := (right_canon b2).1
  refine (refSub_any na nb ao bo ca cb A C w a1 b1 (by omega) (by omega)).mono ?_
  rintro e w' ⟨r, rfl, hr, hb⟩
  rw [a3, b3] at hr
  exact ⟨r, rfl, hr.num (by omega), hb⟩

/-- What holds in less's loop. -/
def LsI (w wr : World) (v : Value) (R : List Nm) (k : Nat) (f : Nat → Int) (x y : Nm) : Prop :=
  OwnNums (w.heap.size + 2) wr v R ∧ R.length = k ∧ (∀ q, q < k → IsNm wr (nmAt R q) (f q)) ∧ (∀ z ∈ R, NewAt w.heap.size z.ao z.L) ∧ Below w.heap.size w wr ∧ Box2 wr w.heap.size (.bool x.neg) (.slice x.ao x.L.length x.cap) ∧ Box2 wr (w.heap.size + 1) (.bool y.neg) (.slice y.ao y.L.length y.cap) ∧ w.heap.size + 2 ≤ wr.heap.size

theorem LsI.below {w wr w2 : World} {v : Value} {R : List Nm} {k : Nat} {f : Nat → Int} {x y : Nm} (h : LsI w wr v R k f x y) (hb : Below wr.heap.size wr w2) : LsI w w2 v R k f x y :=
  ⟨h.1.below hb, h.2.1, fun q hq => (h.2.2.1 q hq).below hb, h.2.2.2.1, h.2.2.2.2.1.trans (hb.mono h.2.2.2.2.1.size), h.2.2.2.2.2.1.below hb h.2.2.2.2.2.1.lt, h.2.2.2.2.2.2.1.below hb h.2.2.2.2.2.2.1.lt, Nat.le_trans h.2.2.2.2.2.2.2 hb.size⟩

/-- One number more. -/
theorem LsI.snoc {w wr w2 : World} {v v' : Value} {R : List Nm} {k : Nat} {f : Nat → Int} {x y z : Nm} (h : LsI w wr v R k f x y) (hz : IsNm wr z (f k)) (hn : NewAt w.heap.size z.ao z.L) (ha : Av v.ownBlock z)
    (ho : w2.ownsRow (w.heap.size + 2) 35 2 v' (k + 1) (numCells R ++ [.bool z.neg, .slice z.ao z.L.length z.cap])) (hg : wr.grownBy w2 v.ownBlock) (hl : v'.ownBlock = v.ownBlock ∨ v'.ownBlock = some wr.heap.size) : LsI w w2 v' (R ++ [z]) (k + 1) f x y := by
  obtain ⟨h1, h2, h3, h4, h5, h6, h7, h8⟩ := h
  have ho' := h1.snoc hz.1 ha (by rw [h2]; exact ho) hg hl
  have hob : ∀ m, v.ownBlock = some m → w.heap.size + 2 ≤ m := fun m hm => (h1.lt m hm).1
  have hl2 : ∀ q, q < k + 1 → LimbsAt w2 (nmAt (R ++ [z]) q).ao (nmAt (R ++ [z]) q).cap (nmAt (R ++ [z]) q).L := fun q hq => (ho'.2 _ (nmAt_mem (by simp; omega))).1
  refine ⟨ho', by simp [h2], fun q hq => ?_, fun u hu => ?_, below_of_grown h5 hg h5.size (fun m hm => by have := hob m hm; omega), ?_, ?_, Nat.le_trans h8 hg.size⟩
  · have := hl2 q hq
    rcases Nat.lt_or_ge q k with e | e
    · have e1 : nmAt (R ++ [z]) q = nmAt R q := by unfold nmAt; rw [List.getElem?_append_left (by omega)]
      rw [e1] at this ⊢
      exact ⟨this, (h3 q e).2⟩
    · obtain rfl : q = k := by omega
      have e1 : nmAt (R ++ [z]) q = z := by unfold nmAt; rw [← h2, List.getElem?_append_right (Nat.le_refl _)]; simp
      rw [e1] at this ⊢
      exact ⟨this, hz.2⟩
  · rcases List.mem_append.1 hu with hu | hu
    · exact h4 u hu
    · simp at hu; subst hu; exact hn
  · exact (hg.block w.heap.size (by omega) (fun e => by have := hob w.heap.size e.symm; omega)).trans h6
  · exact (hg.block (w.heap.size + 1) (by omega) (fun e => by have := hob (w.heap.size + 1) e.symm; omega)).trans h7

set_option maxHeartbeats 8000000 in
theorem less_any (b1 o1 c1 b2 o2 c2 n : Nat) (R1 R2 : List Nm) (x y : Nm) (fa fb : Nat → Int) (X Y : Int) (w : World) (h1 : NumsAt w (some ⟨b1, o1, none⟩) c1 R1) (h2 : NumsAt w (some ⟨b2, o2, none⟩) c2 R2) (l1 : R1.length = n) (l2 : R2.length = n) (hn : 0 < n) (hn6 : n ≤ 6)
    (v1 : ∀ k, k < n → IsNm w (nmAt R1 k) (fa k)) (v2 : ∀ k, k < n → IsNm w (nmAt R2 k) (fb k)) (hx : IsNm w x X) (hy : IsNm w y Y)
    (t1 : ∀ k, k < n → (fa k).natAbs < TOP ∧ (fb k).natAbs < TOP ∧ (fa k * X).natAbs < TOP ∧ (fb k * Y).natAbs < TOP) (tX : X.natAbs < TOP) (tY : Y.natAbs < TOP) :
    Calls Try.prog 24 #[.slice (some ⟨b1, o1, none⟩) n c1, .agg #[.bool x.neg, .slice x.ao x.L.length x.cap], .slice (some ⟨b2, o2, none⟩) n c2, .agg #[.bool y.neg, .slice y.ao y.L.length y.cap]] w fun e w' => ∃ ao cap R, e = .returned (.slice ao n cap) ∧ NumsAt w' ao cap R ∧ NewAt (w.heap.size + 2) ao (R.map (fun _ => 0)) ∧ R.length = n ∧ (∀ q, q < n → IsNm w' (nmAt R q) (fa q * X - fb q * Y)) ∧ (∀ z ∈ R, NewAt w.heap.size z.ao z.L) ∧ Below w.heap.size w w' := by
  obtain ⟨i0, hi0, hz0, hz1, hz2⟩ := info_parts infoWhole
  have H1 := hide h1; have H2 := hide h2; have V1 := hide v1; have V2 := hide v2; have HX := hide hx; have HY := hide hy; have T1 := hide t1; have TX := hide (fun _ : Unit => tX); have TY := hide (fun _ : Unit => tY); have L1 := hide l1; have L2 := hide l2
  have hS0 : LsI w (((w.alloc (.cells #[.bool x.neg, .slice x.ao x.L.length x.cap] 35)).alloc (.cells #[.bool y.neg, .slice y.ao y.L.length y.cap] 35)).alloc (.cells #[] 35)) (.slice (some ⟨w.heap.size + 2, 0, none⟩) 0 0) [] 0 (fun q => fa q * X - fb q * Y) x y := by
    have e : ((w.alloc (.cells #[.bool x.neg, .slice x.ao x.L.length x.cap] 35)).alloc (.cells #[.bool y.neg, .slice y.ao y.L.length y.cap] 35)).heap.size = w.heap.size + 2 := by simp
    have s := OwnNums.start ((w.alloc (.cells #[.bool x.neg, .slice x.ao x.L.length x.cap] 35)).alloc (.cells #[.bool y.neg, .slice y.ao y.L.length y.cap] 35)) (w.heap.size + 2) (by omega)
    rw [e] at s
    refine ⟨s, rfl, fun q hq => by omega, by simp, (((Below.refl _ _).alloc (Nat.le_refl _) _).alloc (by simp) _).alloc (by simp; omega) _, ((Box2.new _ _ _).old _).old _, ?_, by simp⟩
    have := Box2.new (w.alloc (.cells #[.bool x.neg, .slice x.ao x.L.length x.cap] 35)) (.bool y.neg) (.slice y.ao y.L.length y.cap)
    simp only [World.size_alloc] at this
    exact this.old _
  have HS0 := hide hS0
  obtain ⟨nx, ax, cx, Lx⟩ := x
  obtain ⟨ny, ay, cy, Ly⟩ := y
  simp only at HS0 ⊢
  have hnI : (0 : Int) < (n : Int) := by omega
  clear h1 h2 v1 v2 hx hy t1 tX tY hS0 l1 l2
  go_enter Try.func24, Try.ntmps24
  go_wp2_with fail
  go_loopw [9, 10] (fun v i wr => ∃ (k : Nat) (R : List Nm), k ≤ n ∧ i = .int .i64 k ∧ Hid (LsI w wr v R k (fun q => fa q * X - fb q * Y) ⟨nx, ax, cx, Lx⟩ ⟨ny, ay, cy, Ly⟩)) (fun _ i _ => n - (intOf i).toNat)
  case atStart => exact ⟨0, [], Nat.zero_le _, rfl, HS0⟩
  case round =>
    obtain ⟨k, R, hk, rfl, hI⟩ := hrel
    clear HS0
    by_cases hlt : k < n
    · have hkI : (k : Int) < (n : Int) := by omega
      have li := unhide hI
      have hbw := li.2.2.2.2.1
      have hBs := li.2.2.2.2.2.2.2
      obtain ⟨b1', o1', e1', hb1, hc1⟩ := (unhide H1).ne (by rw [unhide L1]; exact hn)
      obtain ⟨b2', o2', e2', hb2, hc2⟩ := (unhide H2).ne (by rw [unhide L2]; exact hn)
      simp only [Option.some.injEq, Addr.mk.injEq, and_true] at e1' e2'
      obtain ⟨rfl, rfl⟩ := e1'
      obtain ⟨rfl, rfl⟩ := e2'
      have d1 := hc1 k (by rw [unhide L1]; exact hlt)
      have d2 := hc2 k (by rw [unhide L2]; exact hlt)
      have p1 := unhide V1 k hlt
      have p2 := unhide V2 k hlt
      obtain ⟨pp, hpp⟩ : ∃ pp, nmAt R1 k = pp := ⟨_, rfl⟩
      obtain ⟨qq, hqq⟩ : ∃ qq, nmAt R2 k = qq := ⟨_, rfl⟩
      rw [hpp] at d1 p1
      rw [hqq] at d2 p2
      obtain ⟨np, ap, cp, Lp⟩ := pp
      obtain ⟨nq, aq, cq, Lq⟩ := qq
      simp only at d1 d2
      have CM1 := hide (fun w' (h : Below w.heap.size w w') => refMul_num (p1.below h).num ((unhide HX).below h).num (unhide T1 k hlt).1 (unhide TX ()))
      have CM2 := hide (fun w' (h : Below w.heap.size w w') => refMul_num (p2.below h).num ((unhide HY).below h).num (unhide T1 k hlt).2.1 (unhide TY ()))
      have CSB := hide (fun w' u v (hu : IsNum 0 w' u (fa k * X)) (hv : IsNum 0 w' v (fb k * Y)) => refSub_num hu hv (unhide T1 k hlt).2.2.1 (unhide T1 k hlt).2.2.2)
      have HKw := hide (fun w' (h : Below (w.heap.size + 2) wr w') => (show Below (w.heap.size + 2) wr w' ∧ w'.cell? ⟨b1, o1 + k * 2, none⟩ = some (.bool np) ∧ w'.cell? ⟨b1, o1 + k * 2 + 1, none⟩ = some (.slice ap Lp.length cp) ∧ w'.cell? ⟨b2, o2 + k * 2, none⟩ = some (.bool nq) ∧ w'.cell? ⟨b2, o2 + k * 2 + 1, none⟩ = some (.slice aq Lq.length cq) ∧ w'.cell? ⟨w.heap.size, 0, none⟩ = some (.bool nx) ∧ w'.cell? ⟨w.heap.size, 1, none⟩ = some (.slice ax Lx.length cx) ∧ w'.cell? ⟨w.heap.size + 1, 0, none⟩ = some (.bool ny) ∧ w'.cell? ⟨w.heap.size + 1, 1, none⟩ = some (.slice ay Ly.length cy) from by
        have hh := hbw.trans (h.mono (by omega))
        have x0 := li.2.2.2.2.2.1.below h (by omega)
        have x1 := li.2.2.2.2.2.2.1.below h (by omega)
        refine ⟨h, ?_, ?_, ?_, ?_, x0.c0, x0.c1, x1.c0, x1.c1⟩
        · rw [hh.cell (p := ⟨b1, o1 + k * 2, none⟩) hb1]; exact d1.1
        · rw [hh.cell (p := ⟨b1, o1 + k * 2 + 1, none⟩) hb1]; exact d1.2
        · rw [hh.cell (p := ⟨b2, o2 + k * 2, none⟩) hb2]; exact d2.1
        · rw [hh.cell (p := ⟨b2, o2 + k * 2 + 1, none⟩) hb2]; exact d2.2))
      have hob : ∀ m, u9.ownBlock = some m → w.heap.size + 2 ≤ m ∧ m < wr.heap.size := fun m hm => li.1.lt m hm
      have HOB := hide hob; have BW := hide hbw; have HBS := hide hBs
      clear li hbw hBs hc1 hc2 d1 d2 p1 p2 hpp hqq hb1 hb2 hob
      go_wp2_with fail
      refine at_world (fun W => W = wr) rfl ?_
      rintro W0 e0
      subst e0
      have hB0 : Below W0.heap.size W0 W0.drew := (Below.refl _ _).drew
      refine wp_region_held_drew (S := (fun w' => Below (w.heap.size + 2) W0 w' ∧ w'.cell? ⟨b1, o1 + k * 2, none⟩ = some (.bool np) ∧ w'.cell? ⟨b1, o1 + k * 2 + 1, none⟩ = some (.slice ap Lp.length cp) ∧ w'.cell? ⟨b2, o2 + k * 2, none⟩ = some (.bool nq) ∧ w'.cell? ⟨b2, o2 + k * 2 + 1, none⟩ = some (.slice aq Lq.length cq) ∧ w'.cell? ⟨w.heap.size, 0, none⟩ = some (.bool nx) ∧ w'.cell? ⟨w.heap.size, 1, none⟩ = some (.slice ax Lx.length cx) ∧ w'.cell? ⟨w.heap.size + 1, 0, none⟩ = some (.bool ny) ∧ w'.cell? ⟨w.heap.size + 1, 1, none⟩ = some (.slice ay Ly.length cy))) (by kernel_rfl) ?_ (fun hHeld => ?_)
      · exact unhide HKw _ (hB0.mono (unhide HBS))
      refine wpAnyH_take (i := 0) (oi := { dst := some 18, op := Op.move (Operand.tmp 9), type := 32, pos := "ref.go:90", after := #[], guard := none }) (v := ?_) rfl (by kernel_rfl) (by kernel_rfl) (by kernel_rfl) (fun _ _ _ h => h) (Or.inl ⟨by rfl, ?_⟩) (by assumption) ?_
      rotate_left
      · ((intro w hSw; (try dsimp only at hSw); go_simp) <;> with_reducible rfl)
      simp only [Act.put, List.setIfInBounds_toArray, List.set_cons_zero, List.set_cons_succ]
      refine wpAnyH_take (i := 1) (oi := { dst := some 19, op := Op.move (Operand.tmp 0), type := 32, pos := "ref.go:90", after := #[], guard := none }) (v := ?_) rfl (by kernel_rfl) (by kernel_rfl) (by kernel_rfl) (fun _ _ _ h => h) (Or.inl ⟨by rfl, ?_⟩) (by assumption) ?_
      rotate_left
      · ((intro w hSw; (try dsimp only at hSw); go_simp) <;> with_reducible rfl)
      simp only [Act.put, List.setIfInBounds_toArray, List.set_cons_zero, List.set_cons_succ]
      refine wpAnyH_take (i := 2) (oi := { dst := some 20, op := Op.move (Operand.tmp 10), type := 3, pos := "ref.go:90", after := #[], guard := none }) (v := ?_) rfl (by kernel_rfl) (by kernel_rfl) (by kernel_rfl) (fun _ _ _ h => h) (Or.inl ⟨by rfl, ?_⟩) (by assumption) ?_
      rotate_left
      · ((intro w hSw; (try dsimp only at hSw); go_simp) <;> with_reducible rfl)
      simp only [Act.put, List.setIfInBounds_toArray, List.set_cons_zero, List.set_cons_succ]
      refine wpAnyH_take (i := 3) (oi := { dst := some 21, op := Op.indexAddr 32 (Operand.tmp 19) (Operand.tmp 20), type := 0, pos := "ref.go:90", after := #[{ on := 1, ground := Ground.data }, { on := 2, ground := Ground.data }], guard := none }) (v := ?_) rfl (by kernel_rfl) (by kernel_rfl) (by kernel_rfl) (fun _ _ _ h => h) (Or.inl ⟨by rfl, ?_⟩) (by assumption) ?_
      rotate_left
      · ((intro w hSw; (try dsimp only at hSw); go_simp) <;> with_reducible rfl)
      simp only [Act.put, List.setIfInBounds_toArray, List.set_cons_zero, List.set_cons_succ]
      refine wpAnyH_take (i := 4) (oi := { dst := some 22, op := Op.load 35 (Operand.tmp 21), type := 35, pos := "ref.go:90", after := #[{ on := 3, ground := Ground.data }], guard := none }) (v := ?_) rfl (by kernel_rfl) (by kernel_rfl) (by kernel_rfl) (fun _ _ _ h => h) (Or.inl ⟨by rfl, ?_⟩) (by assumption) ?_
      rotate_left
      · ((intro w hSw; (try dsimp only at hSw); go_simp) <;> with_reducible rfl)
      simp only [Act.put, List.setIfInBounds_toArray, List.set_cons_zero, List.set_cons_succ]
      refine wpAnyH_take (i := 5) (oi := { dst := some 23, op := Op.load 35 (Operand.tmp 5), type := 35, pos := "ref.go:90", after := #[], guard := none }) (v := ?_) rfl (by kernel_rfl) (by kernel_rfl) (by kernel_rfl) (fun _ _ _ h => h) (Or.inl ⟨by rfl, ?_⟩) (by assumption) ?_
      rotate_left
      · ((intro w hSw; (try dsimp only at hSw); go_simp) <;> with_reducible rfl)
      simp only [Act.put, List.setIfInBounds_toArray, List.set_cons_zero, List.set_cons_succ]
      refine wpAnyH_take (i := 7) (oi := { dst := some 25, op := Op.move (Operand.tmp 2), type := 32, pos := "ref.go:90", after := #[], guard := none }) (v := ?_) rfl (by kernel_rfl) (by kernel_rfl) (by kernel_rfl) (fun _ _ _ h => h) (Or.inl ⟨by rfl, ?_⟩) (by assumption) ?_
      rotate_left
      · ((intro w hSw; (try dsimp only at hSw); go_simp) <;> with_reducible rfl)
      simp only [Act.put, List.setIfInBounds_toArray, List.set_cons_zero, List.set_cons_succ]
      refine wpAnyH_take (i := 8) (oi := { dst := some 26, op := Op.move (Operand.tmp 10), type := 3, pos := "ref.go:90", after := #[], guard := none }) (v := ?_) rfl (by kernel_rfl) (by kernel_rfl) (by kernel_rfl) (fun _ _ _ h => h) (Or.inl ⟨by rfl, ?_⟩) (by assumption) ?_
      rotate_left
      · ((intro w hSw; (try dsimp only at hSw); go_simp) <;> with_reducible rfl)
      simp only [Act.put, List.setIfInBounds_toArray, List.set_cons_zero, List.set_cons_succ]
      refine wpAnyH_take (i := 9) (oi := { dst := some 27, op := Op.indexAddr 32 (Operand.tmp 25) (Operand.tmp 26), type := 0, pos := "ref.go:90", after := #[{ on := 7, ground := Ground.data }, { on := 8, ground := Ground.data }], guard := none }) (v := ?_) rfl (by kernel_rfl) (by kernel_rfl) (by kernel_rfl) (fun _ _ _ h => h) (Or.inl ⟨by rfl, ?_⟩) (by assumption) ?_
      rotate_left
      · ((intro w hSw; (try dsimp only at hSw); go_simp) <;> with_reducible rfl)
      simp only [Act.put, List.setIfInBounds_toArray, List.set_cons_zero, List.set_cons_succ]
      refine wpAnyH_take (i := 10) (oi := { dst := some 28, op := Op.load 35 (Operand.tmp 27), type := 35, pos := "ref.go:90", after := #[{ on := 9, ground := Ground.data }], guard := none }) (v := ?_) rfl (by kernel_rfl) (by kernel_rfl) (by kernel_rfl) (fun _ _ _ h => h) (Or.inl ⟨by rfl, ?_⟩) (by assumption) ?_
      rotate_left
      · ((intro w hSw; (try dsimp only at hSw); go_simp) <;> with_reducible rfl)
      simp only [Act.put, List.setIfInBounds_toArray, List.set_cons_zero, List.set_cons_succ]
      refine wpAnyH_take (i := 11) (oi := { dst := some 29, op := Op.load 35 (Operand.tmp 7), type := 35, pos := "ref.go:90", after := #[], guard := none }) (v := ?_) rfl (by kernel_rfl) (by kernel_rfl) (by kernel_rfl) (fun _ _ _ h => h) (Or.inl ⟨by rfl, ?_⟩) (by assumption) ?_
      rotate_left
      · ((intro w hSw; (try dsimp only at hSw); go_simp) <;> with_reducible rfl)
      simp only [Act.put, List.setIfInBounds_toArray, List.set_cons_zero, List.set_cons_succ]
      refine wpAnyH_ready (rs := [6]) (by kernel_rfl) (by simp) ?_
      refine AllReadyH.cons (o := { dst := some 24, op := Op.call { callee := Callee.value (Operand.func 11), args := #[Operand.tmp 22, Operand.tmp 23], argTypes := #[35, 35] }, type := 35, pos := "ref.go:90", after := #[{ on := 4, ground := Ground.data }, { on := 5, ground := Ground.data }], guard := none }) rfl (fun K hK => ?_) AllReadyH.nil
      go_simp
      refine (unhide CM1 _ ((unhide BW).trans (hB0.mono (unhide BW).size))).mono ?_
      rintro e w2 ⟨vm, rfl, im, hb2'⟩
      have hB2 : Below W0.heap.size W0 w2 := hB0.trans (hb2'.mono hB0.size)
      have IM := hide im
      clear hb2' im
      go_wp2_with fail
      refine hK.out _ _ ?_ (fun hHeld => ?_)
      · exact unhide HKw _ (hB2.mono (unhide HBS))
      clear hK K
      refine wpAnyH_ready (rs := [12]) (by kernel_rfl) (by simp) ?_
      refine AllReadyH.cons (o := { dst := some 30, op := Op.call { callee := Callee.value (Operand.func 11), args := #[Operand.tmp 28, Operand.tmp 29], argTypes := #[35, 35] }, type := 35, pos := "ref.go:90", after := #[{ on := 10, ground := Ground.data }, { on := 11, ground := Ground.data }, { on := 6, ground := Ground.chain }], guard := none }) rfl (fun K hK => ?_) AllReadyH.nil
      go_simp
      refine (unhide CM2 _ ((unhide BW).trans (hB2.mono (unhide BW).size))).mono ?_
      rintro e w3 ⟨vn, rfl, im2, hb3'⟩
      have hB3 : Below W0.heap.size W0 w3 := hB2.trans (hb3'.mono hB2.size)
      have IM3 := hide ((unhide IM).below hb3'); have IN := hide im2
      clear hb3' im2 IM
      go_wp2_with fail
      refine hK.out _ _ ?_ (fun hHeld => ?_)
      · exact unhide HKw _ (hB3.mono (unhide HBS))
      clear hK K
      refine wpAnyH_ready (rs := [13]) (by kernel_rfl) (by simp) ?_
      refine AllReadyH.cons (o := { dst := some 31, op := Op.call { callee := Callee.value (Operand.func 41), args := #[Operand.tmp 24, Operand.tmp 30], argTypes := #[35, 35] }, type := 35, pos := "ref.go:90", after := #[{ on := 6, ground := Ground.data }, { on := 12, ground := Ground.data }, { on := 12, ground := Ground.chain }], guard := none }) rfl (fun K hK => ?_) AllReadyH.nil
      go_simp
      refine (unhide CSB _ _ _ (unhide IM3) (unhide IN)).mono ?_
      rintro e w4 ⟨vs, rfl, iz, hb4'⟩
      have hB4 : Below W0.heap.size W0 w4 := hB3.trans (hb4'.mono hB3.size)
      obtain ⟨nz, az, cz, Lz, rfl, z1, z2, z3, z4, z5, z6⟩ := iz
      have hbA : Below w4.heap.size w4 (w4.alloc (.cells #[.bool nz, .slice az Lz.length cz] 35)) := (Below.refl _ _).alloc (Nat.le_refl _) _
      have hB5 : Below W0.heap.size W0 (w4.alloc (.cells #[.bool nz, .slice az Lz.length cz] 35)) := hB4.trans (hbA.mono hB4.size)
      have LI5 := hide ((unhide hI).below hB5)
      have IZ := hide ((show IsNm w4 ⟨nz, az, cz, Lz⟩ (fa k * X - fb k * Y) from ⟨z1, z3, z4, z5, z6⟩).below hbA)
      have NZ := hide (show NewAt w.heap.size az Lz from z2.mono (Nat.le_trans (unhide BW).size hB3.size))
      have AZ := hide (show Av u9.ownBlock ⟨nz, az, cz, Lz⟩ from Av.old z2 (fun m hm => Nat.lt_of_lt_of_le (unhide HOB m hm).2 hB3.size))
      have OWN := hide (show (w4.alloc (.cells #[.bool nz, .slice az Lz.length cz] 35)).ownsRow (w.heap.size + 2) 35 2 u9 k (numCells R) by have := (unhide LI5).1.1; rwa [(unhide LI5).2.1] at this)
      clear hb4' z1 z2 z3 z4 z5 z6 hbA IM3 IN
      go_wp2_with fail
      refine hK.out _ _ ?_ (fun hHeld => ?_)
      · exact unhide HKw _ (hB4.mono (unhide HBS))
      clear hK K
      refine wpAnyH_ready (rs := [14]) (by kernel_rfl) (by simp) ?_
      refine AllReadyH.cons (o := { dst := some 32, op := Op.buildSlice 32 1 #[(0, Operand.tmp 31)], type := 32, pos := "ref.go:90", after := #[{ on := 13, ground := Ground.data }], guard := none }) rfl (fun K hK => ?_) AllReadyH.nil
      go_simp
      refine hK.out _ _ ?_ (fun hHeld => ?_)
      · exact unhide HKw _ (hB5.mono (unhide HBS))
      clear hK K
      refine wpAnyH_ready (rs := [15]) (by kernel_rfl) (by simp) ?_
      refine AllReadyH.cons (o := { dst := some 33, op := Op.call { callee := Callee.builtin Builtin.append, args := #[Operand.tmp 18, Operand.tmp 32], argTypes := #[32, 32] }, type := 32, pos := "ref.go:90", after := #[{ on := 0, ground := Ground.data }, { on := 14, ground := Ground.data }, { on := 13, ground := Ground.chain }], guard := none }) rfl (fun K hK => ?_) AllReadyH.nil
      refine step_append_lies _ (by rfl) _ _ _ (by rfl) (w.heap.size + 2) 35 i0 (.agg #[.bool false, .slice none 0 0]) 2 32 Try.underlying32 hi0 hz0 hz1 hz2 rfl (by omega) u9 k (numCells R) (by rfl) (unhide OWN) ⟨w4.heap.size, 0, none⟩ 1 1 [.bool nz, .slice az Lz.length cz] (by rfl) (by rfl) (cell_two_new _ _ _ _) (fun u hu => by simp at hu; rcases hu with rfl | rfl <;> rfl) (by decide) (by unfold maxLen; omega) (by omega) (Nat.le_trans (unhide HBS) hB5.size) (w4.heap.size + 1) (by simp) ?_
      intro gg cc w6 hown hgrow hat hlt6
      have FIN := hide ((unhide LI5).snoc (v' := .slice (some ⟨gg, 0, none⟩) (k + 1) cc) (unhide IZ) (unhide NZ) (unhide AZ) hown hgrow (by
        rcases hat with e | e
        · exact .inl e.symm
        · right; show some gg = some _; rw [e]; simp))
      have hB6 : Below (w.heap.size + 2) W0 w6 := below_of_grown (hB5.mono (unhide HBS)) hgrow (Nat.le_trans (unhide HBS) hB5.size) (fun m hm => (unhide HOB m hm).1)
      clear hown hgrow hat hlt6
      refine hK.out _ _ ?_ (fun hHeld => ?_)
      · exact unhide HKw _ hB6
      clear hK K
      refine wpAnyH_take (i := 16) (oi := { dst := some 9, op := Op.assign (Operand.tmp 33), type := 32, pos := "ref.go:90", after := #[{ on := 15, ground := Ground.data }, { on := 15, ground := Ground.chain }, { on := 0, ground := Ground.phase }, { on := 1, ground := Ground.phase }, { on := 2, ground := Ground.phase }, { on := 3, ground := Ground.phase }, { on := 4, ground := Ground.phase }, { on := 5, ground := Ground.phase }, { on := 6, ground := Ground.phase }, { on := 7, ground := Ground.phase }, { on := 8, ground := Ground.phase }, { on := 9, ground := Ground.phase }, { on := 10, ground := Ground.phase }, { on := 11, ground := Ground.phase }, { on := 12, ground := Ground.phase }, { on := 13, ground := Ground.phase }, { on := 14, ground := Ground.phase }, { on := 15, ground := Ground.phase }], guard := none }) (v := ?_) rfl (by kernel_rfl) (by kernel_rfl) (by kernel_rfl) (fun _ _ _ h => h) (Or.inl ⟨by rfl, ?_⟩) (by assumption) ?_
      rotate_left
      · ((intro w hSw; (try dsimp only at hSw); go_simp) <;> with_reducible rfl)
      simp only [Act.put, List.setIfInBounds_toArray, List.set_cons_zero, List.set_cons_succ]
      refine wpAnyH_done (by kernel_rfl) ?_ _
      clear HKw CM1 CM2 CSB HOB BW HBS hB0 hB2 hB3 hB4 hB5 hB6 hHeld LI5 IZ NZ AZ OWN
      go_wp2
      go_roundw
      case rel => exact ⟨k + 1, _, by omega, by go_num, FIN⟩
      case measure => simp [intOf]; omega
    · have hkn : k = n := by omega
      have hgD : decide ((k : Int) < (n : Int)) = false := decide_eq_false (by omega)
      have hgI : ¬ (k : Int) < (n : Int) := by omega
      have li := unhide hI
      obtain ⟨ao', cap', e', q1, q2⟩ := li.1.nums
      rw [li.2.1, hkn] at e'
      have Q := hide (show ∃ ao cap R, Ending.returned u9 = .returned (.slice ao n cap) ∧ NumsAt wr ao cap R ∧ NewAt (w.heap.size + 2) ao (R.map (fun _ => 0)) ∧ R.length = n ∧ (∀ q, q < n → IsNm wr (nmAt R q) (fa q * X - fb q * Y)) ∧ (∀ z ∈ R, NewAt w.heap.size z.ao z.L) ∧ Below w.heap.size w wr from
        ⟨ao', cap', R, by rw [e'], q1, q2, by rw [li.2.1, hkn], fun q hq => li.2.2.1 q (by omega), li.2.2.2.1, li.2.2.2.2.1⟩)
      clear li q1 q2 e' hI
      go_wp2
      go_ret
      obtain ⟨a9, c9, R9, h9, rest9⟩ := unhide Q
      exact ⟨a9, c9, h9, R9, rest9⟩

end Go.Proofs.Ytnpogpoknbgodaa

/- Rows taken off crosswise, column by column: what stays true, and the rank at the end. No program. -/
namespace Go.Proofs.Ytnpogpoknbgodaa

/-- c columns are done, dn of them with a pivot. -/
def St (A a : Nat → Nat → Int) (m n c dn : Nat) : Prop :=
  (∀ k, Van k A m n ↔ Van k a m n) ∧ dn ≤ m ∧ ∃ P : List Nat, P.Pairwise (· < ·) ∧ (∀ p ∈ P, p < c) ∧ P.length = dn ∧ (∀ j, j < dn → a j (P[j]?.getD 0) ≠ 0) ∧ (∀ j i, j < dn → j < i → i < m → a i (P[j]?.getD 0) = 0) ∧ (∀ i, dn ≤ i → i < m → ∀ c', c' < c → a i c' = 0)

theorem St.start (A : Nat → Nat → Int) (m n : Nat) : St A A m n 0 0 :=
  ⟨fun _ => Iff.rfl, Nat.zero_le _, [], List.Pairwise.nil, by simp, rfl, fun j h => by omega, fun j i h => by omega, fun i _ _ c' h => by omega⟩

theorem St.none {A a : Nat → Nat → Int} {m n c dn : Nat} (h : St A a m n c dn) (hz : ∀ i, dn ≤ i → i < m → a i c = 0) : St A a m n (c + 1) dn := by
  obtain ⟨h1, h2, P, p1, p2, p3, p4, p5, p6⟩ := h
  refine ⟨h1, h2, P, p1, fun p hp => by have := p2 p hp; omega, p3, p4, p5, fun i hi hm c' hc => ?_⟩
  rcases Nat.lt_or_ge c' c with h | h
  · exact p6 i hi hm c' h
  · obtain rfl : c' = c := by omega
    exact hz i hi hm

def swF (a : Nat → Nat → Int) (x y : Nat) : Nat → Nat → Int := fun i => a (if i = y then x else if i = x then y else i)
def crF (s : Nat → Nat → Int) (d c : Nat) : Nat → Nat → Int := fun i c' => if i ≤ d ∨ s i c = 0 then s i c' else s i c' * s d c - s d c' * s i c

theorem van_sw {k m n x y : Nat} {a : Nat → Nat → Int} (hx : x < m) (hy : y < m) : Van k a m n ↔ Van k (swF a x y) m n := by
  have hin : ∀ i, i < m → (if i = y then x else if i = x then y else i) < m := fun i hi => by split <;> (try split) <;> omega
  refine ⟨fun h => van_perm (fun i => if i = y then x else if i = x then y else i) hin (fun i _ => rfl) h, fun h => van_perm (fun i => if i = y then x else if i = x then y else i) hin (fun i _ => ?_) h⟩
  unfold swF
  congr 1
  by_cases e1 : i = y
  · subst e1
    by_cases e2 : x = i
    · subst e2; simp
    · simp [e2]
  · by_cases e2 : i = x
    · subst e2; simp
    · simp [e1, e2]

theorem van_cr {k m n d c : Nat} {s : Nat → Nat → Int} (hd : d < m) (hp : s d c ≠ 0) : Van k s m n ↔ Van k (crF s d c) m n := by
  have hdd : ∀ c', crF s d c d c' = s d c' := fun c' => by unfold crF; rw [if_pos (.inl (Nat.le_refl _))]
  constructor
  · intro h
    refine van_rows hd (fun i => if i ≤ d ∨ s i c = 0 then 1 else s d c) (fun i => if i ≤ d ∨ s i c = 0 then 0 else - s i c) (fun i _ c' => ?_) h
    unfold crF
    by_cases e : i ≤ d ∨ s i c = 0
    · simp only [if_pos e]; omega
    · simp only [if_neg e]
      rw [Int.neg_mul, Int.mul_comm (s d c), Int.mul_comm (s i c) (s d c'), Int.sub_eq_add_neg]
  · intro h
    refine van_back hd (fun i => if i ≤ d ∨ s i c = 0 then 1 else s d c) (fun i => if i ≤ d ∨ s i c = 0 then 0 else s i c) (fun i _ c' => ?_) (fun i _ => ?_) h
    · rw [hdd]
      unfold crF
      by_cases e : i ≤ d ∨ s i c = 0
      · simp only [if_pos e]; omega
      · simp only [if_neg e]
        rw [Int.mul_comm (s d c), Int.mul_comm (s i c) (s d c')]
        omega
    · by_cases e : i ≤ d ∨ s i c = 0
      · simp only [if_pos e]; decide
      · simp only [if_neg e]; exact hp

theorem St.pivot {A a : Nat → Nat → Int} {m n c dn at' : Nat} (h : St A a m n c dn) (h1 : dn ≤ at') (h2 : at' < m) (h3 : a at' c ≠ 0) : St A (crF (swF a dn at') dn c) m n (c + 1) (dn + 1) := by
  obtain ⟨q1, q2, P, p1, p2, p3, p4, p5, p6⟩ := h
  have hsd : swF a dn at' dn = a at' := by
    unfold swF
    by_cases e : dn = at'
    · subst e; simp
    · simp [e]
  have hlow : ∀ j, j < dn → swF a dn at' j = a j := fun j hj => by
    unfold swF
    rw [if_neg (by omega), if_neg (by omega)]
  have hhi : ∀ i, dn ≤ i → i < m → ∃ i', dn ≤ i' ∧ i' < m ∧ swF a dn at' i = a i' := fun i hi hm => by
    unfold swF
    by_cases e1 : i = at'
    · exact ⟨dn, Nat.le_refl _, by omega, by rw [if_pos e1]⟩
    · by_cases e2 : i = dn
      · exact ⟨at', h1, h2, by rw [if_neg e1, if_pos e2]⟩
      · exact ⟨i, hi, hm, by rw [if_neg e1, if_neg e2]⟩
  have hpv : swF a dn at' dn c ≠ 0 := by rw [hsd]; exact h3
  have hvan : ∀ k, Van k A m n ↔ Van k (crF (swF a dn at') dn c) m n := fun k => (q1 k).trans ((van_sw (by omega) h2).trans (van_cr (by omega) hpv))
  generalize swF a dn at' = s at *
  have hcl : ∀ i, i ≤ dn → crF s dn c i = s i := fun i hi => by funext c'; unfold crF; rw [if_pos (.inl hi)]
  have hz : ∀ i, dn < i → i < m → ∀ c', s i c' = 0 → s dn c' = 0 → crF s dn c i c' = 0 := fun i _ _ c' e1 e2 => by
    unfold crF
    by_cases e : i ≤ dn ∨ s i c = 0
    · rw [if_pos e]; exact e1
    · rw [if_neg e, e1, e2]; simp
  have hzc : ∀ i, dn < i → crF s dn c i c = 0 := fun i hi => by
    unfold crF
    by_cases e : i ≤ dn ∨ s i c = 0
    · rw [if_pos e]; omega
    · rw [if_neg e, Int.mul_comm (s i c)]; omega
  have gl : ∀ j, j < dn → (P ++ [c])[j]?.getD 0 = P[j]?.getD 0 := fun j hj => by rw [List.getElem?_append_left (by omega)]
  have gd : (P ++ [c])[dn]?.getD 0 = c := by rw [← p3, List.getElem?_append_right (Nat.le_refl _)]; simp
  refine ⟨hvan, by omega, P ++ [c], ?_, ?_, by simp [p3], ?_, ?_, ?_⟩
  · rw [List.pairwise_append]
    exact ⟨p1, List.pairwise_singleton _ _, fun x hx y hy => by simp at hy; subst hy; exact p2 x hx⟩
  · intro p hp
    rcases List.mem_append.1 hp with hp | hp
    · have := p2 p hp; omega
    · simp at hp; omega
  · intro j hj
    rcases Nat.lt_or_ge j dn with h | h
    · rw [gl j h, hcl j (by omega), hlow j h]; exact p4 j h
    · obtain rfl : j = dn := by omega
      rw [gd, hcl j (Nat.le_refl _)]; exact hpv
  · intro j i hj hji him
    rcases Nat.lt_or_ge j dn with h | h
    · rw [gl j h]
      have hd0 : s dn (P[j]?.getD 0) = 0 := by rw [hsd]; exact p5 j at' h (by omega) h2
      rcases Nat.lt_or_ge dn i with hi | hi
      · obtain ⟨i', e1, e2, e3⟩ := hhi i (by omega) him
        exact hz i hi him _ (by rw [e3]; exact p5 j i' h (by omega) e2) hd0
      · rw [hcl i hi]
        rcases Nat.lt_or_ge i dn with h' | h'
        · rw [hlow i h']; exact p5 j i h hji him
        · obtain rfl : i = dn := by omega
          exact hd0
    · obtain rfl : j = dn := by omega
      rw [gd]; exact hzc i hji
  · intro i hi him c' hc'
    rcases Nat.lt_or_ge c' c with h | h
    · obtain ⟨i', e1, e2, e3⟩ := hhi i (by omega) him
      exact hz i (by omega) him c' (by rw [e3]; exact p6 i' e1 e2 c' h) (by rw [hsd]; exact p6 at' h1 h2 c' h)
    · obtain rfl : c' = c := by omega
      exact hzc i (by omega)

theorem St.rank {A a : Nat → Nat → Int} {m n dn : Nat} (h : St A a m n n dn) : IsRank dn A m n := by
  obtain ⟨q1, q2, P, p1, p2, p3, p4, p5, p6⟩ := h
  have := rank_stairs (a := a) P ⟨p1, p2⟩ (by omega) (fun j hj => p4 j (by omega)) (fun j i hj => p5 j i (by omega)) (fun i hi => p6 i (by omega))
  rw [p3] at this
  exact ⟨fun hv => this.1 ((q1 _).1 hv), (q1 _).2 this.2⟩

end Go.Proofs.Ytnpogpoknbgodaa

/- Contracts of the reference's Width, Rising. -/
namespace Go.Proofs.Ytnpogpoknbgodaa
open Go.RowKit
attribute [local go_sem ↓] Go.wp_at_zero Go.wp_at_succ

set_option maxHeartbeats 4000000 in
theorem refWidth_any (ao : Option Addr) (cap : Nat) (M : List Rw) (w : World) (h : MatAt w ao cap M) (hs : SmallM M) :
    Calls Try.prog 21 #[.slice ao M.length cap] w fun e w' => e = .returned (.int .i64 (width M)) ∧ w = w' := by
  by_cases h0 : M = []
  · subst h0
    go_enter Try.func21, Try.ntmps21
    go_wp2
    go_ret
    exact ⟨rfl, rfl⟩
  · have hp : 0 < M.length := List.length_pos_iff.2 h0
    obtain ⟨b, off, rfl, hb, hc⟩ := h.ne hp
    have hc0 := hc 0 hp
    rw [Nat.add_zero] at hc0
    have hne : ((M.length : Int) == 0) = false := by simp; exact h0
    have hr := hs.row 0
    clear h hc hs h0
    unfold width
    generalize (rwAt M 0).R.length = n at *
    generalize (rwAt M 0).ao = a0 at *
    generalize (rwAt M 0).cap = c0 at *
    generalize M.length = m at *
    have hmI : (0 : Int) < (m : Int) := by omega
    go_enter Try.func21, Try.ntmps21
    go_wp2
    go_ret
    exact ⟨rfl, rfl⟩

end Go.Proofs.Ytnpogpoknbgodaa

