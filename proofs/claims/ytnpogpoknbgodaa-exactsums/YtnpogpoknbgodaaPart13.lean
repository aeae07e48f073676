/- Part 13 of the texts. -/
import Derived.Test.YtnpogpoknbgodaaPart04
import Derived.Test.YtnpogpoknbgodaaPart11
import Derived.Test.YtnpogpoknbgodaaPart12
import Derived.WalkSmall
import Derived.Test.YtnpogpoknbgodaaPart06
import Derived.Test.YtnpogpoknbgodaaPart07
import Derived.Test.YtnpogpoknbgodaaPart08
/- Contract of the law's small. -/
namespace Go.Proofs.Ytnpogpoknbgodaa
open Go.RowKit
attribute [local go_sem ↓] Go.wp_at_zero Go.wp_at_succ

/-- The number of memory is z, right, of at most m limbs. -/
def NumIs (m : Nat) (x : Nm) (z : Int) : Prop := rightN x = true ∧ sval x.neg x.L = z ∧ x.L.length ≤ m

theorem IsNumM.parts {m B : Nat} {w : World} {v : Value} {z : Int} (h : IsNumM m B w v z) (hm : m ≤ 512) : ∃ x : Nm, v = .agg #[.bool x.neg, .slice x.ao x.L.length x.cap] ∧ LimbsAt w x.ao x.cap x.L ∧ NewAt B x.ao x.L ∧ NumIs m x z := by
  obtain ⟨neg, ao, cap, L, rfl, h1, h2, h3, h4, h5, h6⟩ := h
  refine ⟨⟨neg, ao, cap, L⟩, rfl, h1, h2, ?_, ?_, h6⟩
  · have e0 : L.length = 0 → neg = false := fun e => by
      have : L = [] := List.length_eq_zero_iff.1 e
      subst this
      rw [h4]; simp [val] at h5; simp; omega
    have e1 : L.length = 0 ∨ L[L.length - 1]?.getD 0 ≠ 0 := by
      rcases h3 with h | h
      · left; rw [h]; rfl
      · exact .inr h
    unfold rightN
    simp only [rightB, Bool.and_eq_true, decide_eq_true_eq, Bool.not_eq_true', Bool.and_eq_false_iff, decide_eq_false_iff_not, Bool.or_eq_true]
    refine ⟨⟨by omega, ?_⟩, e1⟩
    by_cases e : L.length = 0
    · exact .inr (e0 e)
    · exact .inl e
  · unfold sval
    simp only
    rw [h4]
    by_cases hx0 : z < 0
    · simp [hx0]; omega
    · simp [hx0]; omega

/-- A list of whole numbers in memory. -/
structure IR where
  ao : Option Addr
  cap : Nat
  I : List Int
def IR.nil : IR := ⟨none, 0, []⟩
def irAt (Ls : List IR) (i : Nat) : IR := Ls[i]?.getD IR.nil
def IMatAt (w : World) (ao : Option Addr) (cap : Nat) (Ls : List IR) : Prop :=
  Ls.length ≤ cap ∧ (∀ r ∈ Ls, IntsAt w r.ao r.cap r.I ∧ r.I.length ≤ 1000000) ∧ (Ls = [] ∨ ∃ b off, ao = some ⟨b, off, none⟩ ∧ b < w.heap.size ∧ ∀ i, i < Ls.length → w.cell? ⟨b, off + i, none⟩ = some (.slice (irAt Ls i).ao (irAt Ls i).I.length (irAt Ls i).cap))
theorem irAt_mem {Ls : List IR} {i : Nat} (h : i < Ls.length) : irAt Ls i ∈ Ls := by
  unfold irAt; rw [List.getElem?_eq_getElem h]; exact List.getElem_mem h
theorem IMatAt.below {w w' : World} {ao : Option Addr} {cap : Nat} {Ls : List IR} (h : IMatAt w ao cap Ls) (hb : Below w.heap.size w w') : IMatAt w' ao cap Ls := by
  refine ⟨h.1, fun r hr => ⟨(h.2.1 r hr).1.below hb, (h.2.1 r hr).2⟩, ?_⟩
  rcases h.2.2 with e | ⟨b, off, h1, h2, h3⟩
  · exact .inl e
  · refine .inr ⟨b, off, h1, Nat.lt_of_lt_of_le h2 hb.size, fun i hi => ?_⟩
    rw [hb.cell (p := ⟨b, off + i, none⟩) h2]
    exact h3 i hi
theorem IMatAt.ne {w : World} {ao : Option Addr} {cap : Nat} {Ls : List IR} (h : IMatAt w ao cap Ls) (h0 : 0 < Ls.length) : ∃ b off, ao = some ⟨b, off, none⟩ ∧ b < w.heap.size ∧ ∀ i, i < Ls.length → w.cell? ⟨b, off + i, none⟩ = some (.slice (irAt Ls i).ao (irAt Ls i).I.length (irAt Ls i).cap) := by
  rcases h.2.2 with e | e
  · rw [e] at h0; simp at h0
  · exact e

/-- The row r says what the list I says, the first k of it. -/
def RowIs (R : List Nm) (I : List Int) (k : Nat) : Prop := R.length = k ∧ ∀ j, j < k → NumIs 2 (nmAt R j) (atI I j)

theorem nmAt_snoc (R : List Nm) (x : Nm) (j : Nat) : nmAt (R ++ [x]) j = if j < R.length then nmAt R j else if j = R.length then x else Nm.nil := by
  unfold nmAt
  by_cases h : j < R.length
  · rw [if_pos h, List.getElem?_append_left h]
  · rw [if_neg h]
    by_cases e : j = R.length
    · subst e; simp
    · rw [if_neg e, List.getElem?_eq_none (by simp; omega)]; rfl
theorem rwAt_snoc (M : List Rw) (x : Rw) (j : Nat) : rwAt (M ++ [x]) j = if j < M.length then rwAt M j else if j = M.length then x else Rw.nil := by
  unfold rwAt
  by_cases h : j < M.length
  · rw [if_pos h, List.getElem?_append_left h]
  · rw [if_neg h]
    by_cases e : j = M.length
    · subst e; simp
    · rw [if_neg e, List.getElem?_eq_none (by simp; omega)]; rfl
theorem RowIs.snoc {R : List Nm} {I : List Int} {k : Nat} {x : Nm} (h : RowIs R I k) (hx : NumIs 2 x (atI I k)) : RowIs (R ++ [x]) I (k + 1) := by
  refine ⟨by simp [h.1], fun j hj => ?_⟩
  rw [nmAt_snoc, h.1]
  by_cases e : j < k
  · rw [if_pos e]; exact h.2 j e
  · obtain rfl : j = k := by omega
    rw [if_neg e, if_pos rfl]; exact hx

/-- The rows M say what the lists say, the first k of them. -/
def MatIs (M : List Rw) (Ls : List IR) (k : Nat) : Prop := M.length = k ∧ ∀ i, i < k → RowIs (rwAt M i).R (irAt Ls i).I (irAt Ls i).I.length
theorem MatIs.snoc {M : List Rw} {Ls : List IR} {k : Nat} {r : Rw} (h : MatIs M Ls k) (hr : RowIs r.R (irAt Ls k).I (irAt Ls k).I.length) : MatIs (M ++ [r]) Ls (k + 1) := by
  refine ⟨by simp [h.1], fun j hj => ?_⟩
  rw [rwAt_snoc, h.1]
  by_cases e : j < k
  · rw [if_pos e]; exact h.2 j e
  · obtain rfl : j = k := by omega
    rw [if_neg e, if_pos rfl]; exact hr

theorem infoWhole : (Try.prog.info? 35).map (fun i => (i.zero, i.size, i.bytes)) = some (some (.agg #[.bool false, .slice none 0 0]), 2, 32) := by kernel_rfl
theorem infoRow : (Try.prog.info? 32).map (fun i => (i.zero, i.size, i.bytes)) = some (some (.slice none 0 0), 1, 24) := by kernel_rfl

/-- What holds in the loop over one list. -/
def SmI (w : World) (B : Nat) (v3 v5 : Value) (M : List Rw) (R : List Nm) (wr : World) : Prop :=
  OwnRows w.heap.size wr v3 M ∧ OwnNums B wr v5 R ∧ (∀ x ∈ R, NewAt B x.ao x.L) ∧ Below w.heap.size w wr ∧ B ≤ wr.heap.size

set_option maxHeartbeats 8000000 in
theorem small_any (ao : Option Addr) (cap : Nat) (Ls : List IR) (w : World) (h : IMatAt w ao cap Ls) (hl : Ls.length ≤ 1000000) :
    Calls Try.prog 15 #[.slice ao Ls.length cap] w fun e w' => ∃ ao' cap' M, e = .returned (.slice ao' M.length cap') ∧ MatAt w' ao' cap' M ∧ MatIs M Ls Ls.length ∧ Below w.heap.size w w' := by
  obtain ⟨i0, hi, hz0, hz1, hz2⟩ := info_parts infoWhole
  obtain ⟨j0, hj, hy0, hy1, hy2⟩ := info_parts infoRow
  have HM := hide h
  clear h
  go_enter Try.func15, Try.ntmps15
  go_wp2_with fail
  go_loopw [3, 4] (fun v i wr => ∃ (k : Nat) (M : List Rw), k ≤ Ls.length ∧ i = .int .i64 k ∧ Hid (OwnRows w.heap.size wr v M) ∧ Hid (MatIs M Ls k) ∧ Hid (Below w.heap.size w wr)) (fun _ i _ => Ls.length - (intOf i).toNat)
  case atStart => exact ⟨0, [], Nat.zero_le _, rfl, hide (OwnRows.start w _ (Nat.le_refl _)), hide ⟨rfl, fun i hi => by omega⟩, hide ((Below.refl _ _).alloc (Nat.le_refl _) _)⟩
  case round =>
    obtain ⟨k, M, hk, rfl, hO, hMI, hB⟩ := hrel
    by_cases hlt : k < Ls.length
    · have hkI : (k : Int) < (Ls.length : Int) := by omega
      obtain ⟨v3, hv3⟩ : ∃ v3, u3 = v3 := ⟨_, rfl⟩
      subst hv3
      obtain ⟨B, hBd⟩ : ∃ B, wr.heap.size = B := ⟨_, rfl⟩
      have hBw : w.heap.size ≤ B := by have := (unhide hB).size; omega
      have HAV := hide (fun g (hg : B ≤ g) r (hr : r ∈ M) => AvR.new ((unhide hO).2 r hr).1 (g := g) (by omega))
      have HOB := hide (fun m (hm : u3.ownBlock = some m) => (show m < B by have := (unhide hO).lt m hm; omega))
      obtain ⟨b, off, hao, hbb, hc⟩ := ((unhide HM)).ne (by omega)
      have hck := hc k hlt
      have hIk := (unhide HM).2.1 _ (irAt_mem hlt)
      obtain ⟨I, hI⟩ : ∃ I, (irAt Ls k).I = I := ⟨_, rfl⟩
      have HML := hide (unhide hMI).1
      have HMS := hide (fun r (hr : RowIs r.R I I.length) => (unhide hMI).snoc (r := r) (by rw [hI]; exact hr))
      rw [hI] at hck hIk
      have HCK := hide (fun w' (h : Below w.heap.size w w') => (show w'.cell? ⟨b, off + k, none⟩ = some (.slice (irAt Ls k).ao I.length (irAt Ls k).cap) by rw [h.cell (p := ⟨b, off + k, none⟩) hbb]; exact hck))
      have HIN := hide (fun w' (h : Below w.heap.size w w') => hIk.1.below h)
      have hIl := hIk.2
      have HS := hide (show SmI w B u3 (.slice (some ⟨B, 0, none⟩) 0 0) M [] (wr.alloc (.cells #[] 35)) from by
        have hs := OwnNums.start wr B (by omega)
        rw [hBd] at hs
        exact ⟨(unhide hO).below ((Below.refl _ _).alloc (Nat.le_refl _) _), hs, by simp, (unhide hB).alloc (by omega) _, by simp; omega⟩)
      generalize (irAt Ls k).ao = ai at *
      generalize (irAt Ls k).cap = ci at *
      subst hao
      clear hc hck hIk hI hO hMI hB
      go_wp2_with fail
      clear hBd
      go_loopw [5, 6] (fun v i wq => ∃ (c : Nat) (R : List Nm), c ≤ I.length ∧ i = .int .i64 c ∧ Hid (SmI w B u3 v M R wq) ∧ Hid (RowIs R I c)) (fun _ i _ => I.length - (intOf i).toNat)
      case atStart => exact ⟨0, [], Nat.zero_le _, rfl, HS, hide ⟨rfl, fun j hj => by omega⟩⟩
      case round =>
        obtain ⟨c, R, hc, rfl, hSm, hRI⟩ := hrel
        obtain ⟨v5, hv5⟩ : ∃ v5, u5 = v5 := ⟨_, rfl⟩
        subst hv5
        have hbw := (unhide hSm).2.2.2.1
        have hBs := (unhide hSm).2.2.2.2
        have hck := unhide HCK _ hbw
        by_cases hcl : c < I.length
        · obtain ⟨bi, oi, hai, hbi, hci⟩ := (unhide HIN _ hbw).ne (by omega)
          have hcc := hci c hcl
          have hwf := (unhide HIN _ hbw).wf c
          change wr.cell? ⟨bi, oi + c, none⟩ = some (.int .i64 (atI I c)) at hcc
          obtain ⟨z, hz⟩ : ∃ z, atI I c = z := ⟨_, rfl⟩
          rw [hz] at hcc hwf
          have HRS := hide (fun x (hx : NumIs 2 x z) => (unhide hRI).snoc (x := x) (by rw [hz]; exact hx))
          have hcI : (c : Int) < (I.length : Int) := by omega
          have hRl := (unhide hRI).1
          subst hai
          clear hci hz hRI HS
          go_wp2_with fail
          refine (refOf_any z _ hwf.1 hwf.2).mono ?_
          rintro e w1 ⟨v, rfl, iv, hb1⟩
          obtain ⟨x, rfl, x1, x2, x3⟩ := iv.parts (by decide)
          have o1 := (unhide hSm).2.1.below hb1
          have r1 := (unhide hSm).1.below hb1
          have n1 := (unhide hSm).2.2.1
          have hb2 := hbw.trans (hb1.mono hbw.size)
          have hbA : Below w1.heap.size w1 (w1.alloc (.cells #[.bool x.neg, .slice x.ao x.L.length x.cap] 35)) := (Below.refl _ _).alloc (Nat.le_refl _) _
          have hB1 : B ≤ w1.heap.size := Nat.le_trans hBs hb1.size
          have O1 := hide (o1.below hbA)
          have hx1 := hide (x1.below hbA)
          have hav : Av u5.ownBlock x := Av.old x2 (fun m hm => ((unhide hSm).2.1.lt m hm).2)
          have FIN := hide (fun v' w2 (ho : w2.ownsRow B 35 2 v' (R.length + 1) (numCells R ++ [.bool x.neg, .slice x.ao x.L.length x.cap])) (hg : (w1.alloc (.cells #[.bool x.neg, .slice x.ao x.L.length x.cap] 35)).grownBy w2 u5.ownBlock) (hloc : v'.ownBlock = u5.ownBlock ∨ v'.ownBlock = some (w1.alloc (.cells #[.bool x.neg, .slice x.ao x.L.length x.cap] 35)).heap.size) =>
            (show SmI w B u3 v' M (R ++ [x]) w2 from
              ⟨(r1.below hbA).grown hg (fun m hm e => by have h1 := unhide HOB m hm; have h2 := (o1.lt m e.symm).1; omega) (fun r hr => by
                  cases hv : u5.ownBlock with
                  | none => exact AvR.none (((r1.below hbA).2 r hr).1)
                  | some g => exact unhide HAV g (o1.lt g hv).1 r hr),
               (unhide O1).snoc (unhide hx1) hav ho hg hloc,
               fun y hy => by
                 rcases List.mem_append.1 hy with h | h
                 · exact n1 y h
                 · simp at h; subst h; exact x2.mono (by omega),
               below_of_grown (hb2.trans (hbA.mono hb2.size)) hg (by have := hb2.size; simp; omega) (fun m hm => by have := (o1.lt m hm).1; omega), by have := hg.size; simp at this; omega⟩))
          have hRl' : R.length ≤ 1000000 := by omega
          clear o1 r1 n1 x1 hb1 iv hSm hav
          go_wp2_with (at_builtin; refine wpList_append_own_at _ rfl _ _ 32 rfl B 35 i0 (.agg #[.bool false, .slice none 0 0]) 2 32 Try.underlying32 hi hz0 hz1 hz2 rfl (by decide) _ _ _ rfl (unhide O1).1 ⟨w1.heap.size, 0, none⟩ 1 1 [.bool x.neg, .slice x.ao x.L.length x.cap] rfl rfl (cell_two_new _ _ _ _) (fun u hu => by simp at hu; rcases hu with rfl | rfl <;> rfl) (by unfold maxLen; omega) (by omega) (by simp; omega) ?_; intro v' w2 hown' hgrow _ hloc; have SM2 := hide (unhide FIN v' w2 hown' hgrow hloc); clear hown' hgrow hloc)
          have RS2 := unhide HRS x x3
          go_roundw
          case rel => exact ⟨c + 1, R ++ [x], by omega, by go_num, SM2, hide RS2⟩
          case measure => simp [intOf]; omega
        · have hcc : c = I.length := by omega
          subst hcc
          obtain ⟨a5, c5, e5, q1, q2⟩ := (unhide hSm).2.1.nums
          subst e5
          have r1 := (unhide hSm).1
          have n1 := (unhide hSm).2.2.1
          have hbA : Below wr.heap.size wr (wr.alloc (.cells #[.slice a5 R.length c5] 32)) := (Below.refl _ _).alloc (Nat.le_refl _) _
          have O1 := hide (r1.below hbA)
          have Q1 := hide (q1.below hbA)
          have hav : AvR u3.ownBlock ⟨a5, c5, R⟩ := by
            refine ⟨?_, fun x hx => Av.old (n1 x hx) (fun m hm => unhide HOB m hm)⟩
            rcases q2 with e | ⟨b', off', e, hb'⟩
            · left; simpa using e
            · exact .inr ⟨b', off', e, fun e => by have := unhide HOB b' e.symm; omega⟩
          have HAVR := hide hav
          have MS2 := hide (unhide HMS ⟨a5, c5, R⟩ (unhide hRI))
          have hMl : M.length = k := (unhide HML)
          have FIN := hide (fun v' w2 (ho : w2.ownsRow w.heap.size 32 1 v' (M.length + 1) (M.map Rw.v ++ [.slice a5 R.length c5])) (hg : (wr.alloc (.cells #[.slice a5 R.length c5] 32)).grownBy w2 u3.ownBlock) (hloc : v'.ownBlock = u3.ownBlock ∨ v'.ownBlock = some (wr.alloc (.cells #[.slice a5 R.length c5] 32)).heap.size) =>
            (show OwnRows w.heap.size w2 v' (M ++ [⟨a5, c5, R⟩]) ∧ Below w.heap.size w w2 from
              ⟨(unhide O1).snoc (r := ⟨a5, c5, R⟩) (unhide Q1) (unhide HAVR) ho hg hloc, below_of_grown (hbw.trans (hbA.mono hbw.size)) hg (by have := hbw.size; simp; omega) (fun m hm => (r1.lt m hm).1)⟩))
          clear q1 q2 r1 n1 hav hSm hRI HS HMS
          go_wp2_with (at_builtin; refine wpList_append_own_at _ rfl _ _ 22 rfl w.heap.size 32 j0 (.slice none 0 0) 1 24 Try.underlying22 hj hy0 hy1 hy2 rfl (by decide) _ _ _ rfl (unhide O1).1 ⟨wr.heap.size, 0, none⟩ 1 1 [.slice a5 R.length c5] rfl rfl (cell_one_new _ _ _) (fun u hu => by simp at hu; subst hu; rfl) (by unfold maxLen; omega) (by omega) (by have := hbw.size; simp; omega) ?_; intro v' w2 hown' hgrow _ hloc; have SM2 := hide (unhide FIN v' w2 hown' hgrow hloc); clear hown' hgrow hloc)
          go_roundw
          case rel => exact ⟨k + 1, M ++ [⟨a5, c5, R⟩], by omega, by go_num, hide (unhide SM2).1, MS2, hide (unhide SM2).2⟩
          case measure => simp [intOf]; omega
    · have hkk : k = Ls.length := by omega
      subst hkk
      obtain ⟨a5, c5, e5, q1, q2⟩ := (unhide hO).mat
      subst e5
      have Q1 := hide q1
      clear q1 q2 hO
      go_wp2_with fail
      go_ret
      exact ⟨a5, c5, M, rfl, unhide Q1, unhide hMI, unhide hB⟩

end Go.Proofs.Ytnpogpoknbgodaa

/- Contracts of the reference's Width, Rising. -/
namespace Go.Proofs.Ytnpogpoknbgodaa
open Go.RowKit
attribute [local go_sem ↓] Go.wp_at_zero Go.wp_at_succ

set_option maxHeartbeats 4000000 in
theorem refWidth_any (ao : Option Addr) (cap : Nat) (M : List Rw) (w : World) (h : MatAt w ao cap M) (hs : SmallM M) :
    Calls Try.prog 21 #[.slice ao M.length cap] w fun e w' => e = .returned (.int .i64 (width M)) ∧ w = w' := by
  by_cases h0 : M = []
  · subst h0
    go_enter Try.func21, Try.ntmps21
    go_wp2
    go_ret
    exact ⟨rfl, rfl⟩
  · have hp : 0 < M.length := List.length_pos_iff.2 h0
    obtain ⟨b, off, rfl, hb, hc⟩ := h.ne hp
    have hc0 := hc 0 hp
    rw [Nat.add_zero] at hc0
    have hne : ((M.length : Int) == 0) = false := by simp; exact h0
    have hr := hs.row 0
    clear h hc hs h0
    unfold width
    generalize (rwAt M 0).R.length = n at *
    generalize (rwAt M 0).ao = a0 at *
    generalize (rwAt M 0).cap = c0 at *
    generalize M.length = m at *
    have hmI : (0 : Int) < (m : Int) := by omega
    go_enter Try.func21, Try.ntmps21
    go_wp2
    go_ret
    exact ⟨rfl, rfl⟩

end Go.Proofs.Ytnpogpoknbgodaa

/- Contract of the reference's Turned. -/
namespace Go.Proofs.Ytnpogpoknbgodaa
open Go.RowKit
attribute [local go_sem ↓] Go.wp_at_zero Go.wp_at_succ

theorem Av.orig {w : World} {x : Nm} (h : LimbsAt w x.ao x.cap x.L) {g : Option Nat} (hg : ∀ m, g = some m → w.heap.size ≤ m) : Av g x := by
  cases g with
  | none => exact Av.none w x h
  | some m => exact Av.new h (hg m rfl)

/-- The first c numbers of column k. -/
def colOf (M : List Rw) (k c : Nat) : List Nm := (List.range c).map (fun j => entry M j k)
theorem colOf_succ (M : List Rw) (k c : Nat) : colOf M k (c + 1) = colOf M k c ++ [entry M c k] := by simp [colOf, List.range_succ]
theorem colOf_len (M : List Rw) (k c : Nat) : (colOf M k c).length = c := by simp [colOf]
/-- The rows N are the columns of M, the first k of them. -/
def TurnIs (N M : List Rw) (k : Nat) : Prop := N.length = k ∧ ∀ i, i < k → (rwAt N i).R = colOf M i M.length
theorem TurnIs.snoc {N M : List Rw} {k : Nat} {r : Rw} (h : TurnIs N M k) (hr : r.R = colOf M k M.length) : TurnIs (N ++ [r]) M (k + 1) := by
  refine ⟨by simp [h.1], fun j hj => ?_⟩
  rw [rwAt_snoc, h.1]
  by_cases e : j < k
  · rw [if_pos e]; exact h.2 j e
  · obtain rfl : j = k := by omega
    rw [if_neg e, if_pos rfl]; exact hr

/-- What holds in the loop over one column. -/
def TuI (w : World) (B : Nat) (v3 v5 : Value) (N : List Rw) (R : List Nm) (wr : World) : Prop :=
  OwnRows w.heap.size wr v3 N ∧ OwnNums B wr v5 R ∧ (∀ x ∈ R, LimbsAt w x.ao x.cap x.L) ∧ Below w.heap.size w wr ∧ B ≤ wr.heap.size

end Go.Proofs.Ytnpogpoknbgodaa

/- Two rows exchanged turn the determinant's sign. No program. -/
namespace Go.Proofs.Ytnpogpoknbgodaa

/-- The rows r and s, wherever they stand, exchanged. -/
theorem detD_exch (r s : Nat → Int) (pre mid rs : List (Nat → Int)) (cs : List Nat) : detD (pre ++ s :: (mid ++ r :: rs)) cs = - detD (pre ++ r :: (mid ++ s :: rs)) cs := by
  have h0 := detD_twice (fun c => 1 * r c + 1 * s c) rs pre mid cs
  rw [detD_lin r s 1 1] at h0
  have h1 := detD_lin r s 1 1 rs (pre ++ r :: mid) cs
  have h2 := detD_lin r s 1 1 rs (pre ++ s :: mid) cs
  have h3 := detD_twice r rs pre mid cs
  have h4 := detD_twice s rs pre mid cs
  simp only [List.append_assoc, List.cons_append] at h1 h2
  rw [h3] at h1
  rw [h4] at h2
  rw [h1, h2] at h0
  omega

/-- A list parted at two of its places. -/
theorem parted2 {α : Type} (L : List α) (i j : Nat) (hij : i < j) (hj : j < L.length) :
    ∃ pre mid post, ∃ r s, L = pre ++ r :: (mid ++ s :: post) ∧ pre.length = i ∧ (pre.length + 1 + mid.length = j) ∧ L[i]? = some r ∧ L[j]? = some s ∧ (∀ x y, (L.set i x).set j y = pre ++ x :: (mid ++ y :: post)) := by
  refine ⟨L.take i, (L.drop (i + 1)).take (j - i - 1), L.drop (j + 1), L[i]'(by omega), L[j], ?_, ?_, ?_, ?_, ?_, ?_⟩
  · have e1 : L = L.take i ++ L.drop i := (List.take_append_drop i L).symm
    have e2 : L.drop i = L[i]'(by omega) :: L.drop (i + 1) := (List.drop_eq_getElem_cons (by omega))
    have e3 : L.drop (i + 1) = (L.drop (i + 1)).take (j - i - 1) ++ (L.drop (i + 1)).drop (j - i - 1) := (List.take_append_drop _ _).symm
    have e4 : (L.drop (i + 1)).drop (j - i - 1) = L.drop j := by rw [List.drop_drop]; congr 1; omega
    have e5 : L.drop j = L[j] :: L.drop (j + 1) := List.drop_eq_getElem_cons hj
    rw [← e5, ← e4, ← e3, ← e2]
    exact e1
  · simp; omega
  · simp; omega
  · exact List.getElem?_eq_getElem _
  · exact List.getElem?_eq_getElem _
  · intro x y
    apply List.ext_getElem?
    intro k
    have lt : (L.take i).length = i := by simp; omega
    have lm : ((L.drop (i + 1)).take (j - i - 1)).length = j - i - 1 := by simp; omega
    rw [List.getElem?_append, lt]
    by_cases hk : k < i
    · rw [if_pos hk, List.getElem?_set_ne (by omega), List.getElem?_set_ne (by omega), List.getElem?_take, if_pos hk]
    · rw [if_neg hk]
      by_cases he : k = i
      · subst he
        rw [List.getElem?_set_ne (by omega), List.getElem?_set_self (by omega), Nat.sub_self, List.getElem?_cons_zero]
      · obtain ⟨d, rfl⟩ : ∃ d, k = i + 1 + d := ⟨k - i - 1, by omega⟩
        rw [show i + 1 + d - i = d + 1 by omega, List.getElem?_cons_succ, List.getElem?_append, lm]
        by_cases hd : d < j - i - 1
        · rw [if_pos hd, List.getElem?_set_ne (by omega), List.getElem?_set_ne (by omega), List.getElem?_take, if_pos hd, List.getElem?_drop]
        · rw [if_neg hd]
          by_cases hd2 : d = j - i - 1
          · subst hd2
            rw [Nat.sub_self, List.getElem?_cons_zero, show i + 1 + (j - i - 1) = j by omega, List.getElem?_set_self (by simpa using hj)]
          · obtain ⟨q, rfl⟩ : ∃ q, d = j - i - 1 + 1 + q := ⟨d - (j - i - 1) - 1, by omega⟩
            rw [show j - i - 1 + 1 + q - (j - i - 1) = q + 1 by omega, List.getElem?_cons_succ, List.getElem?_drop, List.getElem?_set_ne (by omega), List.getElem?_set_ne (by omega)]
            congr 1; omega

/-- Two places of the list of rows exchanged: the sign turns. -/
theorem detD_set {L : List (Nat → Int)} {i j : Nat} {r s : Nat → Int} (hij : i ≠ j) (hr : L[i]? = some r) (hs : L[j]? = some s) (cs : List Nat) :
    detD ((L.set i s).set j r) cs = - detD L cs := by
  have hi : i < L.length := by
    rcases Nat.lt_or_ge i L.length with h | h
    · exact h
    · rw [List.getElem?_eq_none h] at hr; cases hr
  have hj : j < L.length := by
    rcases Nat.lt_or_ge j L.length with h | h
    · exact h
    · rw [List.getElem?_eq_none h] at hs; cases hs
  rcases Nat.lt_or_ge i j with h | h
  · obtain ⟨pre, mid, post, r', s', e, _, _, e1, e2, e3⟩ := parted2 L i j h hj
    rw [e1] at hr; rw [e2] at hs
    cases hr; cases hs
    rw [e3, detD_exch, ← e]
  · obtain ⟨pre, mid, post, s', r', e, _, _, e1, e2, e3⟩ := parted2 L j i (by omega) hi
    rw [e1] at hs; rw [e2] at hr
    cases hr; cases hs
    rw [List.set_comm _ _ hij, e3, detD_exch, ← e]
end Go.Proofs.Ytnpogpoknbgodaa

/- Contract of the reference's Check. -/
namespace Go.Proofs.Ytnpogpoknbgodaa
open Go.RowKit
attribute [local go_sem ↓] Go.wp_at_zero Go.wp_at_succ

theorem shape_true {M : List Rw} (h6 : M.length ≤ 6) (h : ∀ j, j < M.length → (rwAt M j).R.length ≤ 6 ∧ (rwAt M j).R.length = width M) : shapeB M = true := by
  unfold shapeB
  simp only [Bool.and_eq_true, List.all_eq_true, decide_eq_true_eq]
  refine ⟨⟨h6, ?_⟩, fun r hr => ?_⟩
  · rcases Nat.eq_zero_or_pos M.length with e | e
    · unfold width rwAt; rw [List.length_eq_zero_iff.1 e]; simp [Rw.nil]
    · exact (h 0 e).1
  · obtain ⟨i, hi, rfl⟩ := List.getElem_of_mem hr
    have e : M[i] = rwAt M i := by unfold rwAt; rw [List.getElem?_eq_getElem hi]; rfl
    rw [e]; exact (h i hi).2
theorem shape_false {M : List Rw} {k : Nat} (hk : k < M.length) (h : ¬ ((rwAt M k).R.length ≤ 6 ∧ (rwAt M k).R.length = width M)) : shapeB M = false := by
  cases hs : shapeB M
  · rfl
  · unfold shapeB at hs
    simp only [Bool.and_eq_true, List.all_eq_true, decide_eq_true_eq] at hs
    have := hs.2 _ (rwAt_mem hk)
    exact absurd ⟨by have := hs.1.2; omega, this⟩ h
theorem mChk_3 {M : List Rw} (h : shapeB M = false) : mChk M = 3 := by unfold mChk; rw [h]; rfl
theorem mChk_1 {M : List Rw} (hs : shapeB M = true) {k j : Nat} (hk : k < M.length) (hj : j < (rwAt M k).R.length) (h : rightN (nmAt (rwAt M k).R j) = false) : mChk M = 1 := by
  have : M.all (fun r => r.R.all rightN) = false := List.all_eq_false.2 ⟨_, rwAt_mem hk, by rw [Bool.not_eq_true]; exact List.all_eq_false.2 ⟨_, nmAt_mem hj, by rw [h]; decide⟩⟩
  unfold mChk; rw [hs, this]; rfl

/-- Is a number among the first k rows, and the first j of row k, too long? -/
def longB (M : List Rw) (k j : Nat) : Bool := !((M.take k).all (fun r => r.R.all shortN) && ((rwAt M k).R.take j).all shortN)

theorem longB_step (M : List Rw) (k j : Nat) (hj : j < (rwAt M k).R.length) : longB M k (j + 1) = (longB M k j || decide (80 < (nmAt (rwAt M k).R j).L.length)) := by
  unfold longB
  have e : ((rwAt M k).R.take (j + 1)).all shortN = (((rwAt M k).R.take j).all shortN && shortN (nmAt (rwAt M k).R j)) := by
    rw [List.take_add_one, List.all_append]
    unfold nmAt
    rw [List.getElem?_eq_getElem hj]
    simp
  rw [e]
  have e2 : shortN (nmAt (rwAt M k).R j) = !decide (80 < (nmAt (rwAt M k).R j).L.length) := by
    unfold shortN
    by_cases h : (nmAt (rwAt M k).R j).L.length ≤ 80
    · rw [decide_eq_true h, decide_eq_false (by omega)]; rfl
    · rw [decide_eq_false h, decide_eq_true (by omega)]; rfl
  rw [e2]
  cases (M.take k).all (fun r => r.R.all shortN) <;> cases ((rwAt M k).R.take j).all shortN <;> cases decide (80 < (nmAt (rwAt M k).R j).L.length) <;> rfl
theorem longB_next (M : List Rw) (k : Nat) (hk : k < M.length) : longB M (k + 1) 0 = longB M k (rwAt M k).R.length := by
  unfold longB
  have e : (M.take (k + 1)).all (fun r => r.R.all shortN) = ((M.take k).all (fun r => r.R.all shortN) && (rwAt M k).R.all shortN) := by
    rw [List.take_add_one, List.all_append]
    unfold rwAt
    rw [List.getElem?_eq_getElem hk]
    simp
  rw [e, List.take_length]
  simp
theorem longB_zero (M : List Rw) : longB M 0 0 = false := by simp [longB]
theorem mChk_end {M : List Rw} (hs : shapeB M = true) (hr : ∀ k, k < M.length → ∀ j, j < (rwAt M k).R.length → rightN (nmAt (rwAt M k).R j) = true) : mChk M = if longB M M.length 0 then 2 else 0 := by
  have h1 : M.all (fun r => r.R.all rightN) = true := List.all_eq_true.2 fun r h => by
    obtain ⟨i, hi, rfl⟩ := List.getElem_of_mem h
    have e : M[i] = rwAt M i := by unfold rwAt; rw [List.getElem?_eq_getElem hi]; rfl
    rw [e]
    exact List.all_eq_true.2 fun x hx => by
      obtain ⟨j, hj, rfl⟩ := List.getElem_of_mem hx
      have e : (rwAt M i).R[j] = nmAt (rwAt M i).R j := by unfold nmAt; rw [List.getElem?_eq_getElem hj]; rfl
      rw [e]; exact hr i hi j hj
  unfold mChk longB
  rw [hs, h1, List.take_length]
  cases M.all (fun r => r.R.all shortN) <;> simp

set_option maxHeartbeats 8000000 in
theorem refCheck_any (ao : Option Addr) (cap : Nat) (M : List Rw) (w : World) (h : MatAt w ao cap M) (hs : SmallM M) :
    Calls Try.prog 8 #[.slice ao M.length cap] w fun e w' => e = .returned (.int .i64 (mChk M)) ∧ Below w.heap.size w w' := by
  have HM := hide h; have HS := hide hs
  have hl := hs.1
  by_cases h6 : M.length ≤ 6
  rotate_left
  · have HF := hide (mChk_3 (M := M) (by unfold shapeB; rw [decide_eq_false h6]; rfl))
    generalize mChk M = ce at *
    have h6' : (6 : Int) < (M.length : Int) := by omega
    clear h hs
    go_enter Try.func8, Try.ntmps8
    go_wp2_with fail
    go_ret
    exact ⟨ret_int (unhide HF).symm, Below.refl _ _⟩
  · have hshT := hide (fun h => shape_true (M := M) h6 h)
    obtain ⟨ml, hml⟩ : ∃ ml, M.length = ml := ⟨_, rfl⟩
    have hs' := hs
    rw [hml] at h6 hl ⊢
    have h6' : ¬ (6 : Int) < (ml : Int) := by omega
    have HL := hide hml
    obtain ⟨ce, hce⟩ : ∃ ce, mChk M = ce := ⟨_, rfl⟩
    have HE := hide hce
    rw [hce]
    clear h hs hs' hce hml
    go_enter Try.func8, Try.ntmps8
    go_wp2_with fail
    go_loopw [3] (fun i wr => ∃ k : Nat, k ≤ ml ∧ i = .int .i64 k ∧ Hid (∀ j, j < k → (rwAt M j).R.length ≤ 6 ∧ (rwAt M j).R.length = width M) ∧ Below w.heap.size w wr) (fun i _ => ml - (intOf i).toNat)
    case atStart => exact ⟨0, Nat.zero_le _, rfl, by unfold Hid; intro j hj; omega, Below.refl _ _⟩
    case round =>
      obtain ⟨k, hk, rfl, hq, hb⟩ := hrel
      by_cases hlt : k < ml
      · obtain ⟨b, off, hao, hbb, hc⟩ := ((unhide HM).below hb).ne (by rw [unhide HL]; omega)
        have hltM : k < M.length := by rw [unhide HL]; exact hlt
        have hck := hc k hltM
        have hc0 := hc 0 (by rw [unhide HL]; omega)
        rw [Nat.add_zero] at hc0
        have hr := (unhide HS).row k
        have hr0 := (unhide HS).row 0
        have hkI : (k : Int) < (ml : Int) := by omega
        have h0I : (0 : Int) < (ml : Int) := by omega
        obtain ⟨n, hn⟩ : ∃ n, (rwAt M k).R.length = n := ⟨_, rfl⟩
        have HQ := hide (fun (h : n ≤ 6 ∧ n = width M) j (hj : j < k + 1) => (show (rwAt M j).R.length ≤ 6 ∧ (rwAt M j).R.length = width M by
          rcases Nat.lt_succ_iff_lt_or_eq.1 hj with h' | rfl
          · exact hq.out j h'
          · rw [hn]; exact h))
        have HF := hide (fun (h : ¬ (n ≤ 6 ∧ n = width M)) => (show ce = 3 by rw [← unhide HE]; exact mChk_3 (shape_false hltM (by rw [hn]; exact h))))
        change _ = some (Value.slice _ (width M) _) at hc0
        change width M ≤ _ at hr0
        rw [hn] at hck hr
        generalize width M = wd at *
        generalize (rwAt M k).ao = a1 at *
        generalize (rwAt M k).cap = c1 at *
        generalize (rwAt M 0).ao = a0 at *
        generalize (rwAt M 0).cap = c0 at *
        subst hao
        clear hc hq hn hltM
        by_cases g1 : n ≤ 6
        · have g1' : ¬ (6 : Int) < (n : Int) := by omega
          have gd : decide ((6 : Int) < (n : Int)) = false := decide_eq_false g1'
          have h0N : 0 < ml := by omega
          by_cases g2 : n = wd
          · have g2' : ((n : Int) == (wd : Int)) = true := by simp; omega
            have HQ2 := hide (unhide HQ ⟨g1, g2⟩)
            clear HQ HF g2
            go_wp2_with fail
            go_quiet (fail)
            go_wp2_with fail
            go_roundw
            case rel => exact ⟨k + 1, by omega, by go_num, HQ2, below_drewN hb nq⟩
            case measure => simp [intOf]; omega
          · have g2' : ((n : Int) == (wd : Int)) = false := by simp; omega
            have HF2 := hide (unhide HF (fun h => g2 h.2))
            clear HQ HF g2
            go_wp2_with fail
            go_quiet (fail)
            go_wp2_with fail
            go_ret
            exact ⟨ret_int (unhide HF2).symm, below_drewN hb nq⟩
        · have g1' : (6 : Int) < (n : Int) := by omega
          have gd : decide ((6 : Int) < (n : Int)) = true := decide_eq_true g1'
          have HF2 := hide (unhide HF (fun h => g1 h.1))
          clear HQ HF g1
          go_wp2_with fail
          go_quiet (fail)
          go_wp2_with fail
          go_ret
          exact ⟨ret_int (unhide HF2).symm, below_drewN hb nq⟩
      · have hsh := hide (unhide hshT (fun j hj => hq.out j (by have := unhide HL; omega)))
        have hkk : ml = k := by omega
        subst hkk
        clear hq
        have HRT := hide (fun (h : ∀ k, k < M.length → ∀ j, j < (rwAt M k).R.length → rightN (nmAt (rwAt M k).R j) = true) => (show ce = if longB M ml 0 then 2 else 0 by rw [← unhide HE, mChk_end (unhide hsh) h, unhide HL]))
        have HR1 := hide (fun k j (hk : k < M.length) (hj : j < (rwAt M k).R.length) (h : rightN (nmAt (rwAt M k).R j) = false) => (show ce = 1 by rw [← unhide HE]; exact mChk_1 (unhide hsh) hk hj h))
        have HB0 := hide hb
        clear hshT hb hsh HE
        go_wp2_with fail
        go_loopw [4, 5] (fun lg i wr => ∃ k : Nat, k ≤ ml ∧ i = .int .i64 k ∧ lg = .bool (longB M k 0) ∧ Hid (∀ q, q < k → ∀ j, j < (rwAt M q).R.length → rightN (nmAt (rwAt M q).R j) = true) ∧ Below w.heap.size w wr) (fun _ i _ => ml - (intOf i).toNat)
        case atStart => exact ⟨0, Nat.zero_le _, rfl, by rw [longB_zero], by unfold Hid; intro j hj; omega, unhide HB0⟩
        case round =>
          obtain ⟨k, hk, rfl, rfl, hq, hb⟩ := hrel
          by_cases hlt : k < ml
          · have hltM : k < M.length := by rw [unhide HL]; exact hlt
            have hkI : (k : Int) < (ml : Int) := by omega
            obtain ⟨b, off, hao, hbb, hc⟩ := (unhide HM).ne (by omega)
            have hck := hc k hltM
            have hr := (unhide HS).row k
            have hxs := ((unhide HS).2 _ (rwAt_mem hltM)).2
            have hn0 := (unhide HM).nums hltM
            have HLS := hide (fun j hj => longB_step M k j hj)
            have HLN := hide (longB_next M k hltM)
            have HR1' := hide (fun j hj h => unhide HR1 k j hltM hj h)
            have HQN := hide (fun (h : ∀ j, j < (rwAt M k).R.length → rightN (nmAt (rwAt M k).R j) = true) => (show ∀ q, q < k + 1 → ∀ j, j < (rwAt M q).R.length → rightN (nmAt (rwAt M q).R j) = true from fun q hqk j hj => by
              rcases Nat.lt_succ_iff_lt_or_eq.1 hqk with h' | rfl
              · exact hq.out q h' j hj
              · exact h j hj))
            obtain ⟨R, hR⟩ : ∃ R, (rwAt M k).R = R := ⟨_, rfl⟩
            rw [hR] at hck hr hxs hn0 HLS HLN HR1' HQN
            have HCK := hide (fun w' (h : Below w.heap.size w w') => (show w'.cell? ⟨b, off + k, none⟩ = some (.slice (rwAt M k).ao R.length (rwAt M k).cap) by rw [h.cell (p := ⟨b, off + k, none⟩) hbb]; exact hck))
            generalize (rwAt M k).ao = a1 at *
            generalize (rwAt M k).cap = c1 at *
            have HN := hide hn0
            have HX := hide hxs
            obtain ⟨rl, hrl⟩ : ∃ rl, R.length = rl := ⟨_, rfl⟩
            rw [hrl] at HCK hr HQN HLN
            have HRL := hide hrl
            subst hao
            clear hc hck hxs hn0 hq hltM hrl hR HR1 HRT
            go_wp2_with fail
            go_loopw [4, 6] (fun lg i wq => ∃ j : Nat, j ≤ rl ∧ i = .int .i64 j ∧ lg = .bool (longB M k j) ∧ Hid (∀ j', j' < j → rightN (nmAt R j') = true) ∧ Below w.heap.size w wq) (fun _ i _ => rl - (intOf i).toNat)
            case atStart => exact ⟨0, Nat.zero_le _, rfl, rfl, by unfold Hid; intro j hj; omega, hb⟩
            case round =>
              obtain ⟨j, hj, rfl, rfl, hqj, hbq⟩ := hrel
              have hck := unhide HCK _ hbq
              by_cases hjl : j < rl
              · have hjR : j < R.length := by rw [unhide HRL]; exact hjl
                obtain ⟨b1, o1, hao1, hb1, hc1⟩ := ((unhide HN).below hbq).ne (by omega)
                obtain ⟨d1, d2⟩ := hc1 j hjR
                have hlx := ((unhide HN).below hbq).limbs hjR
                have hxl := unhide HX _ (nmAt_mem hjR)
                have hls := unhide HLS j hjR
                have HR2 := hide (fun h => unhide HR1' j hjR h)
                have HQ2 := hide (fun (h : rightN (nmAt R j) = true) => (show ∀ j', j' < j + 1 → rightN (nmAt R j') = true from fun j' hj' => by
                  rcases Nat.lt_succ_iff_lt_or_eq.1 hj' with h' | rfl
                  · exact hqj.out j' h'
                  · exact h))
                obtain ⟨x, hx⟩ : ∃ x, nmAt R j = x := ⟨_, rfl⟩
                rw [hx] at d1 d2 hlx hxl hls HR2 HQ2
                have hjI : (j : Int) < (rl : Int) := by omega
                obtain ⟨nx, ax, cx, Lx⟩ := x
                simp only at d1 d2 hlx hxl hls
                have HLX := hide hlx
                have CR := hide (right_any nx ax cx Lx _ hlx hxl)
                have HLSS := hide hls
                obtain ⟨lb2, hlb2⟩ : ∃ x, longB M k (j + 1) = x := ⟨_, rfl⟩
                have HL2 := hide hlb2
                rw [hlb2] at HLSS
                generalize longB M k j = lb at *
                clear hlb2
                subst hao1
                clear hc1 hlx hx hqj hls hjR HLS HR1'
                have HRB : Hid (rightN ⟨nx, ax, cx, Lx⟩ = rightB nx Lx) := rfl
                go_wp2_with fail
                refine (unhide CR).mono ?_
                rintro e w1 ⟨rfl, hb1⟩
                have hbq1 := hbq.trans (hb1.mono hbq.size)
                have hck1 := unhide HCK _ hbq1
                have hltb : b1 < wr.heap.size := World.block_lt_of_cell? _ _ d1
                have d2' : w1.cell? ⟨b1, o1 + j * 2 + 1, none⟩ = some (.slice ax Lx.length cx) := by rw [hb1.cell (p := ⟨b1, o1 + j * 2 + 1, none⟩) hltb]; exact d2
                by_cases hrb : rightB nx Lx = true
                · rw [hrb]
                  have HQ3 := hide (unhide HQ2 (by rw [HRB.out]; exact hrb))
                  have BQ := hide hbq1
                  clear HQ2 HR2 hb1 hbq1 hck d1 d2 hbq hrb HRB CR HLX hltb
                  cases lb
                  · by_cases h8 : 80 < Lx.length
                    · have h8' : (80 : Int) < (Lx.length : Int) := by omega
                      have hl2 : lb2 = true := by rw [unhide HLSS, decide_eq_true h8]; rfl
                      go_wp2_with fail
                      go_roundw
                      case rel => exact ⟨j + 1, by omega, by go_num, by rw [unhide HL2, hl2]; first | done | (simp; omega), HQ3, unhide BQ⟩
                      case measure => simp [intOf]; omega
                    · have h8' : ¬ (80 : Int) < (Lx.length : Int) := by omega
                      have hl2 : lb2 = false := by rw [unhide HLSS, decide_eq_false h8]; rfl
                      go_wp2_with fail
                      go_roundw
                      case rel => exact ⟨j + 1, by omega, by go_num, by rw [unhide HL2, hl2]; first | done | (simp; omega), HQ3, unhide BQ⟩
                      case measure => simp [intOf]; omega
                  · have hl2 : lb2 = true := by rw [unhide HLSS]; rfl
                    go_wp2_with fail
                    go_roundw
                    case rel => exact ⟨j + 1, by omega, by go_num, by rw [unhide HL2, hl2]; first | done | (simp; omega), HQ3, unhide BQ⟩
                    case measure => simp [intOf]; omega
                · have hrf : rightB nx Lx = false := by simpa using hrb
                  rw [hrf]
                  have HC1 := hide (unhide HR2 (by rw [HRB.out]; exact hrf))
                  have BQ := hide hbq1
                  clear HQ2 HR2 hb1 hbq1 hck hck1 d1 d2 d2' hbq hrb hrf HRB CR HLX hltb
                  go_wp2_with fail
                  go_ret
                  exact ⟨ret_int (unhide HC1).symm, unhide BQ⟩
              · have hjj : rl = j := by omega
                have HQ3 := hide (unhide HQN (fun j' hj' => hqj.out j' (by have := unhide HRL; omega)))
                have BQ := hide hbq
                subst hjj
                clear hqj hbq HQN HLS HR1'
                go_wp2_with fail
                go_roundw
                case rel => exact ⟨k + 1, by omega, by go_num, by rw [unhide HLN], HQ3, unhide BQ⟩
                case measure => simp [intOf]; omega
          · have hkk : ml = k := by omega
            have HC := hide (unhide HRT (fun q hq' j hj => hq.out q (by have := unhide HL; omega) j hj))
            subst hkk
            clear hq HRT HR1
            generalize longB M ml 0 = lb at *
            cases lb
            · go_wp2_with fail
              go_ret
              exact ⟨ret_int (by rw [unhide HC]; rfl), hb⟩
            · go_wp2_with fail
              go_ret
              exact ⟨ret_int (by rw [unhide HC]; rfl), hb⟩

end Go.Proofs.Ytnpogpoknbgodaa

