/- Part 13 of the texts. -/
import Derived.Test.YtlcidapdmgchoaaPart04
import Derived.Test.YtlcidapdmgchoaaPart11
import Derived.Test.YtlcidapdmgchoaaPart12
import Derived.WalkSmall
import Derived.Test.YtlcidapdmgchoaaPart06
import Derived.Test.YtlcidapdmgchoaaPart07
import Derived.OwnWalk
/- Contract of the law's small. -/
namespace Go.Proofs.Ytlcidapdmgchoaa
open Go.RowKit
attribute [local go_sem ↓] Go.wp_at_zero Go.wp_at_succ

/-- The number of memory is z, right, of at most m limbs. -/
def NumIs (m : Nat) (x : Nm) (z : Int) : Prop := rightN x = true ∧ sval x.neg x.L = z ∧ x.L.length ≤ m

theorem IsNumM.parts {m B : Nat} {w : World} {v : Value} {z : Int} (h : IsNumM m B w v z) (hm : m ≤ 512) : ∃ x : Nm, v = .agg #[.bool x.neg, .slice x.ao x.L.length x.cap] ∧ LimbsAt w x.ao x.cap x.L ∧ NewAt B x.ao x.L ∧ NumIs m x z := by
  obtain ⟨neg, ao, cap, L, rfl, h1, h2, h3, h4, h5, h6⟩ := h
  refine ⟨⟨neg, ao, cap, L⟩, rfl, h1, h2, ?_, ?_, h6⟩
  · have e0 : L.length = 0 → neg = false := fun e => by
      have : L = [] := List.length_eq_zero_iff.1 e
      subst this
      rw [h4]; simp [val] at h5; simp; omega
    have e1 : L.length = 0 ∨ L[L.length - 1]?.getD 0 ≠ 0 := by
      rcases h3 with h | h
      · left; rw [h]; rfl
      · exact .inr h
    unfold rightN
    simp only [rightB, Bool.and_eq_true, decide_eq_true_eq, Bool.not_eq_true', Bool.and_eq_false_iff, decide_eq_false_iff_not, Bool.or_eq_true]
    refine ⟨⟨by omega, ?_⟩, e1⟩
    by_cases e : L.length = 0
    · exact .inr (e0 e)
    · exact .inl e
  · unfold sval
    simp only
    rw [h4]
    by_cases hx0 : z < 0
    · simp [hx0]; omega
    · simp [hx0]; omega

/-- A list of whole numbers in memory. -/
structure IR where
  ao : Option Addr
  cap : Nat
  I : List Int
def IR.nil : IR := ⟨none, 0, []⟩
def irAt (Ls : List IR) (i : Nat) : IR := Ls[i]?.getD IR.nil
def IMatAt (w : World) (ao : Option Addr) (cap : Nat) (Ls : List IR) : Prop :=
  Ls.length ≤ cap ∧ (∀ r ∈ Ls, IntsAt w r.ao r.cap r.I ∧ r.I.length ≤ 1000000) ∧ (Ls = [] ∨ ∃ b off, ao = some ⟨b, off, none⟩ ∧ b < w.heap.size ∧ ∀ i, i < Ls.length → w.cell? ⟨b, off + i, none⟩ = some (.slice (irAt Ls i).ao (irAt Ls i).I.length (irAt Ls i).cap))
theorem irAt_mem {Ls : List IR} {i : Nat} (h : i < Ls.length) : irAt Ls i ∈ Ls := by
  unfold irAt; rw [List.getElem?_eq_getElem h]; exact List.getElem_mem h
theorem IMatAt.below {w w' : World} {ao : Option Addr} {cap : Nat} {Ls : List IR} (h : IMatAt w ao cap Ls) (hb : Below w.heap.size w w') : IMatAt w' ao cap Ls := by
  refine ⟨h.1, fun r hr => ⟨(h.2.1 r hr).1.below hb, (h.2.1 r hr).2⟩, ?_⟩
  rcases h.2.2 with e | ⟨b, off, h1, h2, h3⟩
  · exact .inl e
  · refine .inr ⟨b, off, h1, Nat.lt_of_lt_of_le h2 hb.size, fun i hi => ?_⟩
    rw [hb.cell (p := ⟨b, off + i, none⟩) h2]
    exact h3 i hi
theorem IMatAt.ne {w : World} {ao : Option Addr} {cap : Nat} {Ls : List IR} (h : IMatAt w ao cap Ls) (h0 : 0 < Ls.length) : ∃ b off, ao = some ⟨b, off, none⟩ ∧ b < w.heap.size ∧ ∀ i, i < Ls.length → w.cell? ⟨b, off + i, none⟩ = some (.slice (irAt Ls i).ao (irAt Ls i).I.length (irAt Ls i).cap) := by
  rcases h.2.2 with e | e
  · rw [e] at h0; simp at h0
  · exact e

/-- The row r says what the list I says, the first k of it. -/
def RowIs (R : List Nm) (I : List Int) (k : Nat) : Prop := R.length = k ∧ ∀ j, j < k → NumIs 2 (nmAt R j) (atI I j)

theorem nmAt_snoc (R : List Nm) (x : Nm) (j : Nat) : nmAt (R ++ [x]) j = if j < R.length then nmAt R j else if j = R.length then x else Nm.nil := by
  unfold nmAt
  by_cases h : j < R.length
  · rw [if_pos h, List.getElem?_append_left h]
  · rw [if_neg h]
    by_cases e : j = R.length
    · subst e; simp
    · rw [if_neg e, List.getElem?_eq_none (by simp; omega)]; rfl
theorem rwAt_snoc (M : List Rw) (x : Rw) (j : Nat) : rwAt (M ++ [x]) j = if j < M.length then rwAt M j else if j = M.length then x else Rw.nil := by
  unfold rwAt
  by_cases h : j < M.length
  · rw [if_pos h, List.getElem?_append_left h]
  · rw [if_neg h]
    by_cases e : j = M.length
    · subst e; simp
    · rw [if_neg e, List.getElem?_eq_none (by simp; omega)]; rfl
theorem RowIs.snoc {R : List Nm} {I : List Int} {k : Nat} {x : Nm} (h : RowIs R I k) (hx : NumIs 2 x (atI I k)) : RowIs (R ++ [x]) I (k + 1) := by
  refine ⟨by simp [h.1], fun j hj => ?_⟩
  rw [nmAt_snoc, h.1]
  by_cases e : j < k
  · rw [if_pos e]; exact h.2 j e
  · obtain rfl : j = k := by omega
    rw [if_neg e, if_pos rfl]; exact hx

/-- The rows M say what the lists say, the first k of them. -/
def MatIs (M : List Rw) (Ls : List IR) (k : Nat) : Prop := M.length = k ∧ ∀ i, i < k → RowIs (rwAt M i).R (irAt Ls i).I (irAt Ls i).I.length
theorem MatIs.snoc {M : List Rw} {Ls : List IR} {k : Nat} {r : Rw} (h : MatIs M Ls k) (hr : RowIs r.R (irAt Ls k).I (irAt Ls k).I.length) : MatIs (M ++ [r]) Ls (k + 1) := by
  refine ⟨by simp [h.1], fun j hj => ?_⟩
  rw [rwAt_snoc, h.1]
  by_cases e : j < k
  · rw [if_pos e]; exact h.2 j e
  · obtain rfl : j = k := by omega
    rw [if_neg e, if_pos rfl]; exact hr

theorem infoWhole : (Try.prog.info? 30).map (fun i => (i.zero, i.size, i.bytes)) = some (some (.agg #[.bool false, .slice none 0 0]), 2, 32) := by kernel_rfl
theorem infoRow : (Try.prog.info? 33).map (fun i => (i.zero, i.size, i.bytes)) = some (some (.slice none 0 0), 1, 24) := by kernel_rfl

/-- What holds in the loop over one list. -/
def SmI (w : World) (B : Nat) (v3 v5 : Value) (M : List Rw) (R : List Nm) (wr : World) : Prop :=
  OwnRows w.heap.size wr v3 M ∧ OwnNums B wr v5 R ∧ (∀ x ∈ R, NewAt B x.ao x.L) ∧ Below w.heap.size w wr ∧ B ≤ wr.heap.size

set_option maxHeartbeats 8000000 in
theorem small_any (ao : Option Addr) (cap : Nat) (Ls : List IR) (w : World) (h : IMatAt w ao cap Ls) (hl : Ls.length ≤ 1000000) :
    Calls Try.prog 33 #[.slice ao Ls.length cap] w fun e w' => ∃ ao' cap' M, e = .returned (.slice ao' M.length cap') ∧ MatAt w' ao' cap' M ∧ MatIs M Ls Ls.length ∧ Below w.heap.size w w' := by
  obtain ⟨i0, hi, hz0, hz1, hz2⟩ := info_parts infoWhole
  obtain ⟨j0, hj, hy0, hy1, hy2⟩ := info_parts infoRow
  have HM := hide h
  clear h
  go_enter Try.func33, Try.ntmps33
  go_wp2_with fail
  go_loopw [3, 4] (fun v i wr => ∃ (k : Nat) (M : List Rw), k ≤ Ls.length ∧ i = .int .i64 k ∧ Hid (OwnRows w.heap.size wr v M) ∧ Hid (MatIs M Ls k) ∧ Hid (Below w.heap.size w wr)) (fun _ i _ => Ls.length - (intOf i).toNat)
  case atStart => exact ⟨0, [], Nat.zero_le _, rfl, hide (OwnRows.start w _ (Nat.le_refl _)), hide ⟨rfl, fun i hi => by omega⟩, hide ((Below.refl _ _).alloc (Nat.le_refl _) _)⟩
  case round =>
    obtain ⟨k, M, hk, rfl, hO, hMI, hB⟩ := hrel
    by_cases hlt : k < Ls.length
    · have hkI : (k : Int) < (Ls.length : Int) := by omega
      obtain ⟨v3, hv3⟩ : ∃ v3, u3 = v3 := ⟨_, rfl⟩
      subst hv3
      obtain ⟨B, hBd⟩ : ∃ B, wr.heap.size = B := ⟨_, rfl⟩
      have hBw : w.heap.size ≤ B := by have := (unhide hB).size; omega
      have HAV := hide (fun g (hg : B ≤ g) r (hr : r ∈ M) => AvR.new ((unhide hO).2 r hr).1 (g := g) (by omega))
      have HOB := hide (fun m (hm : u3.ownBlock = some m) => (show m < B by have := (unhide hO).lt m hm; omega))
      obtain ⟨b, off, hao, hbb, hc⟩ := ((unhide HM)).ne (by omega)
      have hck := hc k hlt
      have hIk := (unhide HM).2.1 _ (irAt_mem hlt)
      obtain ⟨I, hI⟩ : ∃ I, (irAt Ls k).I = I := ⟨_, rfl⟩
      have HML := hide (unhide hMI).1
      have HMS := hide (fun r (hr : RowIs r.R I I.length) => (unhide hMI).snoc (r := r) (by rw [hI]; exact hr))
      rw [hI] at hck hIk
      have HCK := hide (fun w' (h : Below w.heap.size w w') => (show w'.cell? ⟨b, off + k, none⟩ = some (.slice (irAt Ls k).ao I.length (irAt Ls k).cap) by rw [h.cell (p := ⟨b, off + k, none⟩) hbb]; exact hck))
      have HIN := hide (fun w' (h : Below w.heap.size w w') => hIk.1.below h)
      have hIl := hIk.2
      have HS := hide (show SmI w B u3 (.slice (some ⟨B, 0, none⟩) 0 0) M [] (wr.alloc (.cells #[] 30)) from by
        have hs := OwnNums.start wr B (by omega)
        rw [hBd] at hs
        exact ⟨(unhide hO).below ((Below.refl _ _).alloc (Nat.le_refl _) _), hs, by simp, (unhide hB).alloc (by omega) _, by simp; omega⟩)
      generalize (irAt Ls k).ao = ai at *
      generalize (irAt Ls k).cap = ci at *
      subst hao
      clear hc hck hIk hI hO hMI hB
      go_wp2_with fail
      clear hBd
      go_loopw [5, 6] (fun v i wq => ∃ (c : Nat) (R : List Nm), c ≤ I.length ∧ i = .int .i64 c ∧ Hid (SmI w B u3 v M R wq) ∧ Hid (RowIs R I c)) (fun _ i _ => I.length - (intOf i).toNat)
      case atStart => exact ⟨0, [], Nat.zero_le _, rfl, HS, hide ⟨rfl, fun j hj => by omega⟩⟩
      case round =>
        obtain ⟨c, R, hc, rfl, hSm, hRI⟩ := hrel
        obtain ⟨v5, hv5⟩ : ∃ v5, u5 = v5 := ⟨_, rfl⟩
        subst hv5
        have hbw := (unhide hSm).2.2.2.1
        have hBs := (unhide hSm).2.2.2.2
        have hck := unhide HCK _ hbw
        by_cases hcl : c < I.length
        · obtain ⟨bi, oi, hai, hbi, hci⟩ := (unhide HIN _ hbw).ne (by omega)
          have hcc := hci c hcl
          have hwf := (unhide HIN _ hbw).wf c
          change wr.cell? ⟨bi, oi + c, none⟩ = some (.int .i64 (atI I c)) at hcc
          obtain ⟨z, hz⟩ : ∃ z, atI I c = z := ⟨_, rfl⟩
          rw [hz] at hcc hwf
          have HRS := hide (fun x (hx : NumIs 2 x z) => (unhide hRI).snoc (x := x) (by rw [hz]; exact hx))
          have hcI : (c : Int) < (I.length : Int) := by omega
          have hRl := (unhide hRI).1
          subst hai
          clear hci hz hRI HS
          go_wp2_with fail
          refine (refOf_any z _ hwf.1 hwf.2).mono ?_
          rintro e w1 ⟨v, rfl, iv, hb1⟩
          obtain ⟨x, rfl, x1, x2, x3⟩ := iv.parts (by decide)
          have o1 := (unhide hSm).2.1.below hb1
          have r1 := (unhide hSm).1.below hb1
          have n1 := (unhide hSm).2.2.1
          have hb2 := hbw.trans (hb1.mono hbw.size)
          have hbA : Below w1.heap.size w1 (w1.alloc (.cells #[.bool x.neg, .slice x.ao x.L.length x.cap] 30)) := (Below.refl _ _).alloc (Nat.le_refl _) _
          have hB1 : B ≤ w1.heap.size := Nat.le_trans hBs hb1.size
          have O1 := hide (o1.below hbA)
          have hx1 := hide (x1.below hbA)
          have hav : Av u5.ownBlock x := Av.old x2 (fun m hm => ((unhide hSm).2.1.lt m hm).2)
          have FIN := hide (fun v' w2 (ho : w2.ownsRow B 30 2 v' (R.length + 1) (numCells R ++ [.bool x.neg, .slice x.ao x.L.length x.cap])) (hg : (w1.alloc (.cells #[.bool x.neg, .slice x.ao x.L.length x.cap] 30)).grownBy w2 u5.ownBlock) (hloc : v'.ownBlock = u5.ownBlock ∨ v'.ownBlock = some (w1.alloc (.cells #[.bool x.neg, .slice x.ao x.L.length x.cap] 30)).heap.size) =>
            (show SmI w B u3 v' M (R ++ [x]) w2 from
              ⟨(r1.below hbA).grown hg (fun m hm e => by have h1 := unhide HOB m hm; have h2 := (o1.lt m e.symm).1; omega) (fun r hr => by
                  cases hv : u5.ownBlock with
                  | none => exact AvR.none (((r1.below hbA).2 r hr).1)
                  | some g => exact unhide HAV g (o1.lt g hv).1 r hr),
               (unhide O1).snoc (unhide hx1) hav ho hg hloc,
               fun y hy => by
                 rcases List.mem_append.1 hy with h | h
                 · exact n1 y h
                 · simp at h; subst h; exact x2.mono (by omega),
               below_of_grown (hb2.trans (hbA.mono hb2.size)) hg (by have := hb2.size; simp; omega) (fun m hm => by have := (o1.lt m hm).1; omega), by have := hg.size; simp at this; omega⟩))
          have hRl' : R.length ≤ 1000000 := by omega
          clear o1 r1 n1 x1 hb1 iv hSm hav
          go_wp2_with (at_builtin; refine wpList_append_own_at _ rfl _ _ 33 rfl B 30 i0 (.agg #[.bool false, .slice none 0 0]) 2 32 Try.underlying33 hi hz0 hz1 hz2 rfl (by decide) _ _ _ rfl (unhide O1).1 ⟨w1.heap.size, 0, none⟩ 1 1 [.bool x.neg, .slice x.ao x.L.length x.cap] rfl rfl (cell_two_new _ _ _ _) (fun u hu => by simp at hu; rcases hu with rfl | rfl <;> rfl) (by unfold maxLen; omega) (by omega) (by simp; omega) ?_; intro v' w2 hown' hgrow _ hloc; have SM2 := hide (unhide FIN v' w2 hown' hgrow hloc); clear hown' hgrow hloc)
          have RS2 := unhide HRS x x3
          go_roundw
          case rel => exact ⟨c + 1, R ++ [x], by omega, by go_num, SM2, hide RS2⟩
          case measure => simp [intOf]; omega
        · have hcc : c = I.length := by omega
          subst hcc
          obtain ⟨a5, c5, e5, q1, q2⟩ := (unhide hSm).2.1.nums
          subst e5
          have r1 := (unhide hSm).1
          have n1 := (unhide hSm).2.2.1
          have hbA : Below wr.heap.size wr (wr.alloc (.cells #[.slice a5 R.length c5] 33)) := (Below.refl _ _).alloc (Nat.le_refl _) _
          have O1 := hide (r1.below hbA)
          have Q1 := hide (q1.below hbA)
          have hav : AvR u3.ownBlock ⟨a5, c5, R⟩ := by
            refine ⟨?_, fun x hx => Av.old (n1 x hx) (fun m hm => unhide HOB m hm)⟩
            rcases q2 with e | ⟨b', off', e, hb'⟩
            · left; simpa using e
            · exact .inr ⟨b', off', e, fun e => by have := unhide HOB b' e.symm; omega⟩
          have HAVR := hide hav
          have MS2 := hide (unhide HMS ⟨a5, c5, R⟩ (unhide hRI))
          have hMl : M.length = k := (unhide HML)
          have FIN := hide (fun v' w2 (ho : w2.ownsRow w.heap.size 33 1 v' (M.length + 1) (M.map Rw.v ++ [.slice a5 R.length c5])) (hg : (wr.alloc (.cells #[.slice a5 R.length c5] 33)).grownBy w2 u3.ownBlock) (hloc : v'.ownBlock = u3.ownBlock ∨ v'.ownBlock = some (wr.alloc (.cells #[.slice a5 R.length c5] 33)).heap.size) =>
            (show OwnRows w.heap.size w2 v' (M ++ [⟨a5, c5, R⟩]) ∧ Below w.heap.size w w2 from
              ⟨(unhide O1).snoc (r := ⟨a5, c5, R⟩) (unhide Q1) (unhide HAVR) ho hg hloc, below_of_grown (hbw.trans (hbA.mono hbw.size)) hg (by have := hbw.size; simp; omega) (fun m hm => (r1.lt m hm).1)⟩))
          clear q1 q2 r1 n1 hav hSm hRI HS HMS
          go_wp2_with (at_builtin; refine wpList_append_own_at _ rfl _ _ 22 rfl w.heap.size 33 j0 (.slice none 0 0) 1 24 Try.underlying22 hj hy0 hy1 hy2 rfl (by decide) _ _ _ rfl (unhide O1).1 ⟨wr.heap.size, 0, none⟩ 1 1 [.slice a5 R.length c5] rfl rfl (cell_one_new _ _ _) (fun u hu => by simp at hu; subst hu; rfl) (by unfold maxLen; omega) (by omega) (by have := hbw.size; simp; omega) ?_; intro v' w2 hown' hgrow _ hloc; have SM2 := hide (unhide FIN v' w2 hown' hgrow hloc); clear hown' hgrow hloc)
          go_roundw
          case rel => exact ⟨k + 1, M ++ [⟨a5, c5, R⟩], by omega, by go_num, hide (unhide SM2).1, MS2, hide (unhide SM2).2⟩
          case measure => simp [intOf]; omega
    · have hkk : k = Ls.length := by omega
      subst hkk
      obtain ⟨a5, c5, e5, q1, q2⟩ := (unhide hO).mat
      subst e5
      have Q1 := hide q1
      clear q1 q2 hO
      go_wp2_with fail
      go_ret
      exact ⟨a5, c5, M, rfl, unhide Q1, unhide hMI, unhide hB⟩

end Go.Proofs.Ytlcidapdmgchoaa

/- Contract of the law's awake. -/
namespace Go.Proofs.Ytlcidapdmgchoaa
open Go.RowKit
attribute [local go_sem ↓] Go.wp_at_zero Go.wp_at_succ

theorem imat2 (w : World) (a b c d : Int) (ha : -100 ≤ a ∧ a ≤ 100) (hb : -100 ≤ b ∧ b ≤ 100) (hc : -100 ≤ c ∧ c ≤ 100) (hd : -100 ≤ d ∧ d ≤ 100) :
    IMatAt (((w.alloc (.cells #[.int .i64 a, .int .i64 b] 2)).alloc (.cells #[.int .i64 c, .int .i64 d] 2)).alloc (.cells #[.slice (some ⟨w.heap.size, 0, none⟩) 2 2, .slice (some ⟨w.heap.size + 1, 0, none⟩) 2 2] 56)) (some ⟨w.heap.size + 1 + 1, 0, none⟩) 2 [⟨some ⟨w.heap.size, 0, none⟩, 2, [a, b]⟩, ⟨some ⟨w.heap.size + 1, 0, none⟩, 2, [c, d]⟩] := by
  have c1 := ((CellsAt.new w #[.int .i64 a, .int .i64 b] 2).old (.cells #[.int .i64 c, .int .i64 d] 2)).old (.cells #[.slice (some ⟨w.heap.size, 0, none⟩) 2 2, .slice (some ⟨w.heap.size + 1, 0, none⟩) 2 2] 56)
  have c2 := (CellsAt.new (w.alloc (.cells #[.int .i64 a, .int .i64 b] 2)) #[.int .i64 c, .int .i64 d] 2).old (.cells #[.slice (some ⟨w.heap.size, 0, none⟩) 2 2, .slice (some ⟨w.heap.size + 1, 0, none⟩) 2 2] 56)
  have c3 := CellsAt.new ((w.alloc (.cells #[.int .i64 a, .int .i64 b] 2)).alloc (.cells #[.int .i64 c, .int .i64 d] 2)) #[.slice (some ⟨w.heap.size, 0, none⟩) 2 2, .slice (some ⟨w.heap.size + 1, 0, none⟩) 2 2] 56
  simp only [World.size_alloc] at c1 c2 c3
  have l1 := c1.lt; have l2 := c2.lt; have l3 := c3.lt
  refine ⟨by simp, ?_, .inr ⟨_, 0, rfl, l3, ?_⟩⟩
  · intro r hr
    simp only [List.mem_cons, List.not_mem_nil, or_false] at hr
    rcases hr with rfl | rfl
    · refine ⟨⟨by simp, by intro x hx; simp at hx; omega, .inr ⟨_, 0, rfl, l1, ?_⟩⟩, by simp⟩
      intro i hi
      simp only [List.length_cons, List.length_nil] at hi
      rw [c1.cell]
      match i, hi with
      | 0, _ => rfl
      | 1, _ => rfl
    · refine ⟨⟨by simp, by intro x hx; simp at hx; omega, .inr ⟨_, 0, rfl, l2, ?_⟩⟩, by simp⟩
      intro i hi
      simp only [List.length_cons, List.length_nil] at hi
      rw [c2.cell]
      match i, hi with
      | 0, _ => rfl
      | 1, _ => rfl
  · intro i hi
    simp only [List.length_cons, List.length_nil] at hi
    rw [c3.cell]
    match i, hi with
    | 0, _ => rfl
    | 1, _ => rfl

theorem mat2_facts {M : List Rw} {a1 a2 : Option Addr} {c1 c2 : Nat} {a b c d : Int} (h : MatIs M [⟨a1, c1, [a, b]⟩, ⟨a2, c2, [c, d]⟩] 2) :
    M.length = 2 ∧ SmallM M ∧ mChk M = 0 ∧ width M = 2 ∧ (valM M 0 0 = a ∧ valM M 0 1 = b ∧ valM M 1 0 = c ∧ valM M 1 1 = d) := by
  obtain ⟨h1, h2⟩ := h
  have r0 := h2 0 (by omega)
  have r1 := h2 1 (by omega)
  have e0 : (irAt [(⟨a1, c1, [a, b]⟩ : IR), ⟨a2, c2, [c, d]⟩] 0).I = [a, b] := rfl
  have e1 : (irAt [(⟨a1, c1, [a, b]⟩ : IR), ⟨a2, c2, [c, d]⟩] 1).I = [c, d] := rfl
  rw [e0] at r0
  rw [e1] at r1
  obtain ⟨q0, p0⟩ := r0
  obtain ⟨q1, p1⟩ := r1
  simp only [List.length_cons, List.length_nil] at q0 q1 p0 p1
  have n00 := p0 0 (by omega); have n01 := p0 1 (by omega); have n10 := p1 0 (by omega); have n11 := p1 1 (by omega)
  have hrow : ∀ r ∈ M, r.R.length = 2 ∧ ∀ x ∈ r.R, rightN x = true ∧ x.L.length ≤ 2 := by
    intro r hr
    obtain ⟨i, hi, rfl⟩ := List.getElem_of_mem hr
    have e : M[i] = rwAt M i := by unfold rwAt; rw [List.getElem?_eq_getElem hi]; rfl
    rw [e]
    have key : ∀ R : List Nm, R.length = 2 → (rightN (nmAt R 0) = true ∧ (nmAt R 0).L.length ≤ 2) → (rightN (nmAt R 1) = true ∧ (nmAt R 1).L.length ≤ 2) → ∀ x ∈ R, rightN x = true ∧ x.L.length ≤ 2 := by
      intro R hR g0 g1 x hx
      obtain ⟨j, hj, rfl⟩ := List.getElem_of_mem hx
      have e : R[j] = nmAt R j := by unfold nmAt; rw [List.getElem?_eq_getElem hj]; rfl
      rw [e]
      match j, (show j < 2 by omega) with
      | 0, _ => exact g0
      | 1, _ => exact g1
    match i, (show i < 2 by omega) with
    | 0, _ => exact ⟨q0, key _ q0 ⟨n00.1, n00.2.2⟩ ⟨n01.1, n01.2.2⟩⟩
    | 1, _ => exact ⟨q1, key _ q1 ⟨n10.1, n10.2.2⟩ ⟨n11.1, n11.2.2⟩⟩
  have hw : width M = 2 := q0
  refine ⟨h1, ⟨by omega, fun r hr => ⟨by have := (hrow r hr).1; omega, fun x hx => by have := ((hrow r hr).2 x hx).2; omega⟩⟩, ?_, hw, n00.2.1, n01.2.1, n10.2.1, n11.2.1⟩
  have s1 : shapeB M = true := by
    unfold shapeB
    rw [hw, h1]
    simp only [Bool.and_eq_true, List.all_eq_true, decide_eq_true_eq]
    exact ⟨⟨by omega, by omega⟩, fun r hr => (hrow r hr).1⟩
  have s2 : (M.all (fun r => r.R.all rightN)) = true := List.all_eq_true.2 fun r hr => List.all_eq_true.2 fun x hx => ((hrow r hr).2 x hx).1
  have s3 : (M.all (fun r => r.R.all shortN)) = true := List.all_eq_true.2 fun r hr => List.all_eq_true.2 fun x hx => by
    have := ((hrow r hr).2 x hx).2
    unfold shortN; exact decide_eq_true (by omega)
  unfold mChk
  rw [s1, s2, s3]; rfl

theorem det2 (M : List Rw) : dm M (2 ^ 2 - 1) = valM M 0 0 * valM M 1 1 - valM M 0 1 * valM M 1 0 := by
  have e : elems (2 ^ 2 - 1) = [0, 1] := by decide +kernel
  unfold dm sz
  rw [e]
  show detD [valM M 0, valM M 1] [0, 1] = _
  simp [detD, exD]

theorem minor2 (a : Nat → Nat → Int) : minorD a (List.range 2) (List.range 2) = a 0 0 * a 1 1 - a 0 1 * a 1 0 := by
  show detD [a 0, a 1] [0, 1] = _
  simp [detD, exD]

theorem rank2 {a : Nat → Nat → Int} {k : Nat} (h : IsRank k a 2 2) (h0 : a 0 0 ≠ 0) (hd : a 0 0 * a 1 1 - a 0 1 * a 1 0 = 0) : k = 1 := by
  refine h.unique ⟨fun hv => h0 ?_, ?_⟩
  · have := hv [0] [0] ⟨by simp, by simp⟩ ⟨by simp, by simp⟩ rfl rfl
    simpa [minorD, detD, exD] using this
  · exact van_full.2 (by rw [minor2]; exact hd)

set_option maxHeartbeats 4000000 in
theorem awake3_any (w : World) : Calls Try.prog 11 #[] w fun e w' => e = .returned (.bool true) ∧ Below w.heap.size w w' := by
  have A1 := hide (imat2 w 1 2 3 4 (by decide) (by decide) (by decide) (by decide))
  go_enter Try.func11, Try.ntmps11
  go_wp2_with fail
  refine (small_any _ _ _ _ (unhide A1) (by simp)).mono ?_
  rintro e w1 ⟨ao1, cap1, M1, rfl, m1, i1, hb1⟩
  obtain ⟨l1, s1, k1, wd1, v1, v2, v3, v4⟩ := mat2_facts i1
  have b1 : Below w.heap.size w w1 := (((((Below.refl w.heap.size w).alloc (Nat.le_refl _) _).alloc (by simp) _).alloc (by simp; omega) _)).trans (hb1.mono (by simp; omega))
  have CD := hide (det_any ao1 cap1 M1 w1 m1 s1)
  have hE : detE M1 = 0 := by unfold detE; rw [if_pos k1, if_pos (by omega)]
  have hV : detV M1 = -2 := by unfold detV; rw [if_pos hE, l1, det2, v1, v2, v3, v4]; rfl
  rw [hE, hV] at CD
  have B1 := hide b1
  clear i1 m1 s1 k1 wd1 v1 v2 v3 v4 hE hV hb1 b1 A1 l1
  go_wp2_with fail
  refine (unhide CD).mono ?_
  rintro e w2 ⟨v, rfl, ⟨n2, a2, c2, L2, rfl, j2⟩, hb2⟩
  have I2 := hide (show IsNum 0 w2 (.agg #[.bool n2, .slice a2 L2.length c2]) (-2) from ⟨n2, a2, c2, L2, rfl, j2⟩)
  have B2 := hide ((unhide B1).trans (hb2.mono (unhide B1).size))
  clear hb2 j2 B1 CD
  have A2 := hide (imat2 (w2.alloc (.cells #[.bool n2, .slice a2 L2.length c2] 30)) 1 2 2 4 (by decide) (by decide) (by decide) (by decide))
  simp only [World.size_alloc] at A2
  go_wp2_with fail
  refine (small_any _ _ _ _ (unhide A2) (by simp)).mono ?_
  rintro e w3 ⟨ao3, cap3, M3, rfl, m3, i3, hb3⟩
  obtain ⟨l3, s3, k3, wd3, v1, v2, v3, v4⟩ := mat2_facts i3
  have hbx : Below w2.heap.size w2 w3 := (((((Below.refl w2.heap.size w2).alloc (Nat.le_refl _) _).alloc (by simp) _).alloc (by simp; omega) _).alloc (by simp; omega) _).trans (hb3.mono (by simp; omega))
  have x3 : Box2 w3 w2.heap.size (.bool n2) (.slice a2 L2.length c2) := ((((Box2.new w2 _ _).old _).old _).old _).below hb3 (by simp; omega)
  have CR := hide (rank_any ao3 cap3 M3 w3 m3 s3)
  rw [k3] at CR
  have HR := hide (fun k (h : IsRank k (valM M3) M3.length (width M3)) => (show k = 1 by
    rw [l3, wd3] at h
    exact rank2 h (by rw [v1]; decide) (by rw [v1, v2, v3, v4]; decide)))
  have I3 := hide ((unhide I2).below hbx)
  have B3 := hide ((unhide B2).trans (hbx.mono (unhide B2).size))
  have X3 := hide x3
  clear i3 m3 s3 k3 wd3 v1 v2 v3 v4 hb3 A2 l3 hbx x3 I2 B2
  go_wp2_with fail
  refine (unhide CR).mono ?_
  rintro e w4 ⟨kk, rfl, hk1, _, hb4⟩
  obtain rfl := unhide HR kk (hk1 (by first | rfl | trivial))
  have x4 := (unhide X3).below hb4 (unhide X3).lt
  have I4 := hide ((unhide I3).below hb4)
  have B4 := hide ((unhide B3).trans (hb4.mono (unhide B3).size))
  have d0 := x4.c0; have d1 := x4.c1
  have X4 := hide x4
  clear hk1 hb4 x4 X3 I3 B3 CR HR
  go_wp2_with fail
  refine at_world (fun W => W = w4) rfl ?_
  rintro W0 e0
  subst e0
  have HK := hide (fun w' (h : Below W0.heap.size W0 w') => show Below W0.heap.size W0 w' ∧ w'.cell? ⟨w2.heap.size, 0, none⟩ = some (.bool n2) ∧ w'.cell? ⟨w2.heap.size, 1, none⟩ = some (.slice a2 L2.length c2) from
    ⟨h, ((unhide X4).below h (unhide X4).lt).c0, ((unhide X4).below h (unhide X4).lt).c1⟩)
  clear d0 d1
  go_region_held3 (fun w' => Below W0.heap.size W0 w' ∧ w'.cell? ⟨w2.heap.size, 0, none⟩ = some (.bool n2) ∧ w'.cell? ⟨w2.heap.size, 1, none⟩ = some (.slice a2 L2.length c2))
    (first | assumption | exact unhide HK _ (Below.refl _ _).drew | exact unhide HK _ (by assumption) | fail "KK")
    (first | (go_at_call 26; refine (refOf_any (-2) _ (by decide) (by decide)).mono ?_; rintro e wn ⟨v, rfl, iv, hb1⟩; have hBn : Below W0.heap.size W0 wn := Below.trans (And.left (by assumption)) (hb1.mono (Below.size (And.left (by assumption)))); have IV := hide (iv.num (by decide)); clear hb1 iv) | (go_at_call 14; refine (same_yes ((unhide I4).below (And.left (by assumption))) (unhide IV) rfl).mono ?_; rintro e wn ⟨rfl, hb1⟩; have hBn : Below W0.heap.size W0 wn := Below.trans (And.left (by assumption)) (hb1.mono (Below.size (And.left (by assumption)))); clear hb1) | fail "NO ARM")
  go_wp2
  go_ret
  exact ⟨rfl, (unhide B4).trans (Below.mono (And.left (by assumption)) (unhide B4).size)⟩

end Go.Proofs.Ytlcidapdmgchoaa

/- Contract of the reference's Check. -/
namespace Go.Proofs.Ytlcidapdmgchoaa
open Go.RowKit
attribute [local go_sem ↓] Go.wp_at_zero Go.wp_at_succ

theorem shape_true {M : List Rw} (h6 : M.length ≤ 6) (h : ∀ j, j < M.length → (rwAt M j).R.length ≤ 6 ∧ (rwAt M j).R.length = width M) : shapeB M = true := by
  unfold shapeB
  simp only [Bool.and_eq_true, List.all_eq_true, decide_eq_true_eq]
  refine ⟨⟨h6, ?_⟩, fun r hr => ?_⟩
  · rcases Nat.eq_zero_or_pos M.length with e | e
    · unfold width rwAt; rw [List.length_eq_zero_iff.1 e]; simp [Rw.nil]
    · exact (h 0 e).1
  · obtain ⟨i, hi, rfl⟩ := List.getElem_of_mem hr
    have e : M[i] = rwAt M i := by unfold rwAt; rw [List.getElem?_eq_getElem hi]; rfl
    rw [e]; exact (h i hi).2
theorem shape_false {M : List Rw} {k : Nat} (hk : k < M.length) (h : ¬ ((rwAt M k).R.length ≤ 6 ∧ (rwAt M k).R.length = width M)) : shapeB M = false := by
  cases hs : shapeB M
  · rfl
  · unfold shapeB at hs
    simp only [Bool.and_eq_true, List.all_eq_true, decide_eq_true_eq] at hs
    have := hs.2 _ (rwAt_mem hk)
    exact absurd ⟨by have := hs.1.2; omega, this⟩ h
theorem mChk_3 {M : List Rw} (h : shapeB M = false) : mChk M = 3 := by unfold mChk; rw [h]; rfl
theorem mChk_1 {M : List Rw} (hs : shapeB M = true) {k j : Nat} (hk : k < M.length) (hj : j < (rwAt M k).R.length) (h : rightN (nmAt (rwAt M k).R j) = false) : mChk M = 1 := by
  have : M.all (fun r => r.R.all rightN) = false := List.all_eq_false.2 ⟨_, rwAt_mem hk, by rw [Bool.not_eq_true]; exact List.all_eq_false.2 ⟨_, nmAt_mem hj, by rw [h]; decide⟩⟩
  unfold mChk; rw [hs, this]; rfl

/-- Is a number among the first k rows, and the first j of row k, too long? -/
def longB (M : List Rw) (k j : Nat) : Bool := !((M.take k).all (fun r => r.R.all shortN) && ((rwAt M k).R.take j).all shortN)

theorem longB_step (M : List Rw) (k j : Nat) (hj : j < (rwAt M k).R.length) : longB M k (j + 1) = (longB M k j || decide (80 < (nmAt (rwAt M k).R j).L.length)) := by
  unfold longB
  have e : ((rwAt M k).R.take (j + 1)).all shortN = (((rwAt M k).R.take j).all shortN && shortN (nmAt (rwAt M k).R j)) := by
    rw [List.take_add_one, List.all_append]
    unfold nmAt
    rw [List.getElem?_eq_getElem hj]
    simp
  rw [e]
  have e2 : shortN (nmAt (rwAt M k).R j) = !decide (80 < (nmAt (rwAt M k).R j).L.length) := by
    unfold shortN
    by_cases h : (nmAt (rwAt M k).R j).L.length ≤ 80
    · rw [decide_eq_true h, decide_eq_false (by omega)]; rfl
    · rw [decide_eq_false h, decide_eq_true (by omega)]; rfl
  rw [e2]
  cases (M.take k).all (fun r => r.R.all shortN) <;> cases ((rwAt M k).R.take j).all shortN <;> cases decide (80 < (nmAt (rwAt M k).R j).L.length) <;> rfl
theorem longB_next (M : List Rw) (k : Nat) (hk : k < M.length) : longB M (k + 1) 0 = longB M k (rwAt M k).R.length := by
  unfold longB
  have e : (M.take (k + 1)).all (fun r => r.R.all shortN) = ((M.take k).all (fun r => r.R.all shortN) && (rwAt M k).R.all shortN) := by
    rw [List.take_add_one, List.all_append]
    unfold rwAt
    rw [List.getElem?_eq_getElem hk]
    simp
  rw [e, List.take_length]
  simp
theorem longB_zero (M : List Rw) : longB M 0 0 = false := by simp [longB]
theorem mChk_end {M : List Rw} (hs : shapeB M = true) (hr : ∀ k, k < M.length → ∀ j, j < (rwAt M k).R.length → rightN (nmAt (rwAt M k).R j) = true) : mChk M = if longB M M.length 0 then 2 else 0 := by
  have h1 : M.all (fun r => r.R.all rightN) = true := List.all_eq_true.2 fun r h => by
    obtain ⟨i, hi, rfl⟩ := List.getElem_of_mem h
    have e : M[i] = rwAt M i := by unfold rwAt; rw [List.getElem?_eq_getElem hi]; rfl
    rw [e]
    exact List.all_eq_true.2 fun x hx => by
      obtain ⟨j, hj, rfl⟩ := List.getElem_of_mem hx
      have e : (rwAt M i).R[j] = nmAt (rwAt M i).R j := by unfold nmAt; rw [List.getElem?_eq_getElem hj]; rfl
      rw [e]; exact hr i hi j hj
  unfold mChk longB
  rw [hs, h1, List.take_length]
  cases M.all (fun r => r.R.all shortN) <;> simp

set_option maxHeartbeats 8000000 in
theorem refCheck_any (ao : Option Addr) (cap : Nat) (M : List Rw) (w : World) (h : MatAt w ao cap M) (hs : SmallM M) :
    Calls Try.prog 10 #[.slice ao M.length cap] w fun e w' => e = .returned (.int .i64 (mChk M)) ∧ Below w.heap.size w w' := by
  have HM := hide h; have HS := hide hs
  have hl := hs.1
  by_cases h6 : M.length ≤ 6
  rotate_left
  · have HF := hide (mChk_3 (M := M) (by unfold shapeB; rw [decide_eq_false h6]; rfl))
    generalize mChk M = ce at *
    have h6' : (6 : Int) < (M.length : Int) := by omega
    clear h hs
    go_enter Try.func10, Try.ntmps10
    go_wp2_with fail
    go_ret
    exact ⟨ret_int (unhide HF).symm, Below.refl _ _⟩
  · have hshT := hide (fun h => shape_true (M := M) h6 h)
    obtain ⟨ml, hml⟩ : ∃ ml, M.length = ml := ⟨_, rfl⟩
    have hs' := hs
    rw [hml] at h6 hl ⊢
    have h6' : ¬ (6 : Int) < (ml : Int) := by omega
    have HL := hide hml
    obtain ⟨ce, hce⟩ : ∃ ce, mChk M = ce := ⟨_, rfl⟩
    have HE := hide hce
    rw [hce]
    clear h hs hs' hce hml
    go_enter Try.func10, Try.ntmps10
    go_wp2_with fail
    go_loopw [3] (fun i wr => ∃ k : Nat, k ≤ ml ∧ i = .int .i64 k ∧ Hid (∀ j, j < k → (rwAt M j).R.length ≤ 6 ∧ (rwAt M j).R.length = width M) ∧ Below w.heap.size w wr) (fun i _ => ml - (intOf i).toNat)
    case atStart => exact ⟨0, Nat.zero_le _, rfl, by unfold Hid; intro j hj; omega, Below.refl _ _⟩
    case round =>
      obtain ⟨k, hk, rfl, hq, hb⟩ := hrel
      by_cases hlt : k < ml
      · obtain ⟨b, off, hao, hbb, hc⟩ := ((unhide HM).below hb).ne (by rw [unhide HL]; omega)
        have hltM : k < M.length := by rw [unhide HL]; exact hlt
        have hck := hc k hltM
        have hc0 := hc 0 (by rw [unhide HL]; omega)
        rw [Nat.add_zero] at hc0
        have hr := (unhide HS).row k
        have hr0 := (unhide HS).row 0
        have hkI : (k : Int) < (ml : Int) := by omega
        have h0I : (0 : Int) < (ml : Int) := by omega
        obtain ⟨n, hn⟩ : ∃ n, (rwAt M k).R.length = n := ⟨_, rfl⟩
        have HQ := hide (fun (h : n ≤ 6 ∧ n = width M) j (hj : j < k + 1) => (show (rwAt M j).R.length ≤ 6 ∧ (rwAt M j).R.length = width M by
          rcases Nat.lt_succ_iff_lt_or_eq.1 hj with h' | rfl
          · exact hq.out j h'
          · rw [hn]; exact h))
        have HF := hide (fun (h : ¬ (n ≤ 6 ∧ n = width M)) => (show ce = 3 by rw [← unhide HE]; exact mChk_3 (shape_false hltM (by rw [hn]; exact h))))
        change _ = some (Value.slice _ (width M) _) at hc0
        change width M ≤ _ at hr0
        rw [hn] at hck hr
        generalize width M = wd at *
        generalize (rwAt M k).ao = a1 at *
        generalize (rwAt M k).cap = c1 at *
        generalize (rwAt M 0).ao = a0 at *
        generalize (rwAt M 0).cap = c0 at *
        subst hao
        clear hc hq hn hltM
        by_cases g1 : n ≤ 6
        · have g1' : ¬ (6 : Int) < (n : Int) := by omega
          have gd : decide ((6 : Int) < (n : Int)) = false := decide_eq_false g1'
          have h0N : 0 < ml := by omega
          by_cases g2 : n = wd
          · have g2' : ((n : Int) == (wd : Int)) = true := by simp; omega
            have HQ2 := hide (unhide HQ ⟨g1, g2⟩)
            clear HQ HF g2
            go_wp2_with fail
            go_quiet (fail)
            go_wp2_with fail
            go_roundw
            case rel => exact ⟨k + 1, by omega, by go_num, HQ2, below_drewN hb nq⟩
            case measure => simp [intOf]; omega
          · have g2' : ((n : Int) == (wd : Int)) = false := by simp; omega
            have HF2 := hide (unhide HF (fun h => g2 h.2))
            clear HQ HF g2
            go_wp2_with fail
            go_quiet (fail)
            go_wp2_with fail
            go_ret
            exact ⟨ret_int (unhide HF2).symm, below_drewN hb nq⟩
        · have g1' : (6 : Int) < (n : Int) := by omega
          have gd : decide ((6 : Int) < (n : Int)) = true := decide_eq_true g1'
          have HF2 := hide (unhide HF (fun h => g1 h.1))
          clear HQ HF g1
          go_wp2_with fail
          go_quiet (fail)
          go_wp2_with fail
          go_ret
          exact ⟨ret_int (unhide HF2).symm, below_drewN hb nq⟩
      · have hsh := hide (unhide hshT (fun j hj => hq.out j (by have := unhide HL; omega)))
        have hkk : ml = k := by omega
        subst hkk
        clear hq
        have HRT := hide (fun (h : ∀ k, k < M.length → ∀ j, j < (rwAt M k).R.length → rightN (nmAt (rwAt M k).R j) = true) => (show ce = if longB M ml 0 then 2 else 0 by rw [← unhide HE, mChk_end (unhide hsh) h, unhide HL]))
        have HR1 := hide (fun k j (hk : k < M.length) (hj : j < (rwAt M k).R.length) (h : rightN (nmAt (rwAt M k).R j) = false) => (show ce = 1 by rw [← unhide HE]; exact mChk_1 (unhide hsh) hk hj h))
        have HB0 := hide hb
        clear hshT hb hsh HE
        go_wp2_with fail
        go_loopw [4, 5] (fun lg i wr => ∃ k : Nat, k ≤ ml ∧ i = .int .i64 k ∧ lg = .bool (longB M k 0) ∧ Hid (∀ q, q < k → ∀ j, j < (rwAt M q).R.length → rightN (nmAt (rwAt M q).R j) = true) ∧ Below w.heap.size w wr) (fun _ i _ => ml - (intOf i).toNat)
        case atStart => exact ⟨0, Nat.zero_le _, rfl, by rw [longB_zero], by unfold Hid; intro j hj; omega, unhide HB0⟩
        case round =>
          obtain ⟨k, hk, rfl, rfl, hq, hb⟩ := hrel
          by_cases hlt : k < ml
          · have hltM : k < M.length := by rw [unhide HL]; exact hlt
            have hkI : (k : Int) < (ml : Int) := by omega
            obtain ⟨b, off, hao, hbb, hc⟩ := (unhide HM).ne (by omega)
            have hck := hc k hltM
            have hr := (unhide HS).row k
            have hxs := ((unhide HS).2 _ (rwAt_mem hltM)).2
            have hn0 := (unhide HM).nums hltM
            have HLS := hide (fun j hj => longB_step M k j hj)
            have HLN := hide (longB_next M k hltM)
            have HR1' := hide (fun j hj h => unhide HR1 k j hltM hj h)
            have HQN := hide (fun (h : ∀ j, j < (rwAt M k).R.length → rightN (nmAt (rwAt M k).R j) = true) => (show ∀ q, q < k + 1 → ∀ j, j < (rwAt M q).R.length → rightN (nmAt (rwAt M q).R j) = true from fun q hqk j hj => by
              rcases Nat.lt_succ_iff_lt_or_eq.1 hqk with h' | rfl
              · exact hq.out q h' j hj
              · exact h j hj))
            obtain ⟨R, hR⟩ : ∃ R, (rwAt M k).R = R := ⟨_, rfl⟩
            rw [hR] at hck hr hxs hn0 HLS HLN HR1' HQN
            have HCK := hide (fun w' (h : Below w.heap.size w w') => (show w'.cell? ⟨b, off + k, none⟩ = some (.slice (rwAt M k).ao R.length (rwAt M k).cap) by rw [h.cell (p := ⟨b, off + k, none⟩) hbb]; exact hck))
            generalize (rwAt M k).ao = a1 at *
            generalize (rwAt M k).cap = c1 at *
            have HN := hide hn0
            have HX := hide hxs
            obtain ⟨rl, hrl⟩ : ∃ rl, R.length = rl := ⟨_, rfl⟩
            rw [hrl] at HCK hr HQN HLN
            have HRL := hide hrl
            subst hao
            clear hc hck hxs hn0 hq hltM hrl hR HR1 HRT
            go_wp2_with fail
            go_loopw [4, 6] (fun lg i wq => ∃ j : Nat, j ≤ rl ∧ i = .int .i64 j ∧ lg = .bool (longB M k j) ∧ Hid (∀ j', j' < j → rightN (nmAt R j') = true) ∧ Below w.heap.size w wq) (fun _ i _ => rl - (intOf i).toNat)
            case atStart => exact ⟨0, Nat.zero_le _, rfl, rfl, by unfold Hid; intro j hj; omega, hb⟩
            case round =>
              obtain ⟨j, hj, rfl, rfl, hqj, hbq⟩ := hrel
              have hck := unhide HCK _ hbq
              by_cases hjl : j < rl
              · have hjR : j < R.length := by rw [unhide HRL]; exact hjl
                obtain ⟨b1, o1, hao1, hb1, hc1⟩ := ((unhide HN).below hbq).ne (by omega)
                obtain ⟨d1, d2⟩ := hc1 j hjR
                have hlx := ((unhide HN).below hbq).limbs hjR
                have hxl := unhide HX _ (nmAt_mem hjR)
                have hls := unhide HLS j hjR
                have HR2 := hide (fun h => unhide HR1' j hjR h)
                have HQ2 := hide (fun (h : rightN (nmAt R j) = true) => (show ∀ j', j' < j + 1 → rightN (nmAt R j') = true from fun j' hj' => by
                  rcases Nat.lt_succ_iff_lt_or_eq.1 hj' with h' | rfl
                  · exact hqj.out j' h'
                  · exact h))
                obtain ⟨x, hx⟩ : ∃ x, nmAt R j = x := ⟨_, rfl⟩
                rw [hx] at d1 d2 hlx hxl hls HR2 HQ2
                have hjI : (j : Int) < (rl : Int) := by omega
                obtain ⟨nx, ax, cx, Lx⟩ := x
                simp only at d1 d2 hlx hxl hls
                have HLX := hide hlx
                have CR := hide (right_any nx ax cx Lx _ hlx hxl)
                have HLSS := hide hls
                obtain ⟨lb2, hlb2⟩ : ∃ x, longB M k (j + 1) = x := ⟨_, rfl⟩
                have HL2 := hide hlb2
                rw [hlb2] at HLSS
                generalize longB M k j = lb at *
                clear hlb2
                subst hao1
                clear hc1 hlx hx hqj hls hjR HLS HR1'
                have HRB : Hid (rightN ⟨nx, ax, cx, Lx⟩ = rightB nx Lx) := rfl
                go_wp2_with fail
                refine (unhide CR).mono ?_
                rintro e w1 ⟨rfl, hb1⟩
                have hbq1 := hbq.trans (hb1.mono hbq.size)
                have hck1 := unhide HCK _ hbq1
                have hltb : b1 < wr.heap.size := World.block_lt_of_cell? _ _ d1
                have d2' : w1.cell? ⟨b1, o1 + j * 2 + 1, none⟩ = some (.slice ax Lx.length cx) := by rw [hb1.cell (p := ⟨b1, o1 + j * 2 + 1, none⟩) hltb]; exact d2
                by_cases hrb : rightB nx Lx = true
                · rw [hrb]
                  have HQ3 := hide (unhide HQ2 (by rw [HRB.out]; exact hrb))
                  have BQ := hide hbq1
                  clear HQ2 HR2 hb1 hbq1 hck d1 d2 hbq hrb HRB CR HLX hltb
                  cases lb
                  · by_cases h8 : 80 < Lx.length
                    · have h8' : (80 : Int) < (Lx.length : Int) := by omega
                      have hl2 : lb2 = true := by rw [unhide HLSS, decide_eq_true h8]; rfl
                      go_wp2_with fail
                      go_roundw
                      case rel => exact ⟨j + 1, by omega, by go_num, by rw [unhide HL2, hl2]; first | done | (simp; omega), HQ3, unhide BQ⟩
                      case measure => simp [intOf]; omega
                    · have h8' : ¬ (80 : Int) < (Lx.length : Int) := by omega
                      have hl2 : lb2 = false := by rw [unhide HLSS, decide_eq_false h8]; rfl
                      go_wp2_with fail
                      go_roundw
                      case rel => exact ⟨j + 1, by omega, by go_num, by rw [unhide HL2, hl2]; first | done | (simp; omega), HQ3, unhide BQ⟩
                      case measure => simp [intOf]; omega
                  · have hl2 : lb2 = true := by rw [unhide HLSS]; rfl
                    go_wp2_with fail
                    go_roundw
                    case rel => exact ⟨j + 1, by omega, by go_num, by rw [unhide HL2, hl2]; first | done | (simp; omega), HQ3, unhide BQ⟩
                    case measure => simp [intOf]; omega
                · have hrf : rightB nx Lx = false := by simpa using hrb
                  rw [hrf]
                  have HC1 := hide (unhide HR2 (by rw [HRB.out]; exact hrf))
                  have BQ := hide hbq1
                  clear HQ2 HR2 hb1 hbq1 hck hck1 d1 d2 d2' hbq hrb hrf HRB CR HLX hltb
                  go_wp2_with fail
                  go_ret
                  exact ⟨ret_int (unhide HC1).symm, unhide BQ⟩
              · have hjj : rl = j := by omega
                have HQ3 := hide (unhide HQN (fun j' hj' => hqj.out j' (by have := unhide HRL; omega)))
                have BQ := hide hbq
                subst hjj
                clear hqj hbq HQN HLS HR1'
                go_wp2_with fail
                go_roundw
                case rel => exact ⟨k + 1, by omega, by go_num, by rw [unhide HLN], HQ3, unhide BQ⟩
                case measure => simp [intOf]; omega
          · have hkk : ml = k := by omega
            have HC := hide (unhide HRT (fun q hq' j hj => hq.out q (by have := unhide HL; omega) j hj))
            subst hkk
            clear hq HRT HR1
            generalize longB M ml 0 = lb at *
            cases lb
            · go_wp2_with fail
              go_ret
              exact ⟨ret_int (by rw [unhide HC]; rfl), hb⟩
            · go_wp2_with fail
              go_ret
              exact ⟨ret_int (by rw [unhide HC]; rfl), hb⟩

end Go.Proofs.Ytlcidapdmgchoaa

/- Contract of the reference's Light. -/
namespace Go.Proofs.Ytlcidapdmgchoaa
open Go.RowKit
attribute [local go_sem ↓] Go.wp_at_zero Go.wp_at_succ

/-- Is a number short, or not right? -/
def litN (q : Nat) (x : Nm) : Bool := !(decide (q < x.L.length) && rightN x)
def litB (q : Nat) (M : List Rw) : Bool := M.all (fun r => r.R.all (litN q))

theorem lit_false {q : Nat} {M : List Rw} {k j : Nat} (hk : k < M.length) (hj : j < (rwAt M k).R.length) (h : litN q (nmAt (rwAt M k).R j) = false) : litB q M = false :=
  List.all_eq_false.2 ⟨_, rwAt_mem hk, by rw [Bool.not_eq_true]; exact List.all_eq_false.2 ⟨_, nmAt_mem hj, by rw [h]; decide⟩⟩
theorem lit_true {q : Nat} {M : List Rw} (h : ∀ k, k < M.length → ∀ j, j < (rwAt M k).R.length → litN q (nmAt (rwAt M k).R j) = true) : litB q M = true :=
  List.all_eq_true.2 fun r hr => by
    obtain ⟨i, hi, rfl⟩ := List.getElem_of_mem hr
    have e : M[i] = rwAt M i := by unfold rwAt; rw [List.getElem?_eq_getElem hi]; rfl
    rw [e]
    exact List.all_eq_true.2 fun x hx => by
      obtain ⟨j, hj, rfl⟩ := List.getElem_of_mem hx
      have e : (rwAt M i).R[j] = nmAt (rwAt M i).R j := by unfold nmAt; rw [List.getElem?_eq_getElem hj]; rfl
      rw [e]; exact h i hi j hj

set_option maxHeartbeats 8000000 in
theorem light_any (ao : Option Addr) (cap : Nat) (M : List Rw) (q : Nat) (w : World) (h : MatAt w ao cap M) (hs : SmallM M) :
    Calls Try.prog 12 #[.slice ao M.length cap, .int .i64 (q : Int)] w fun e w' => e = .returned (.bool (litB q M)) ∧ Below w.heap.size w w' := by
  have HM := hide h; have HS := hide hs
  have hl := hs.1
  obtain ⟨ml, hml⟩ : ∃ ml, M.length = ml := ⟨_, rfl⟩
  obtain ⟨ce, hce⟩ : ∃ ce, litB q M = ce := ⟨_, rfl⟩
  have HE := hide hce
  have HL := hide hml
  rw [hml] at hl ⊢
  rw [hce]
  clear h hs hce hml
  go_enter Try.func12, Try.ntmps12
  go_wp2_with fail
  go_loopw [5] (fun i wr => ∃ k : Nat, k ≤ ml ∧ i = .int .i64 k ∧ Hid (∀ a, a < k → ∀ j, j < (rwAt M a).R.length → litN q (nmAt (rwAt M a).R j) = true) ∧ Below w.heap.size w wr) (fun i _ => ml - (intOf i).toNat)
  case atStart => exact ⟨0, Nat.zero_le _, rfl, by unfold Hid; intro j hj; omega, Below.refl _ _⟩
  case round =>
    obtain ⟨k, hk, rfl, hq, hb⟩ := hrel
    by_cases hlt : k < ml
    · have hltM : k < M.length := by rw [unhide HL]; exact hlt
      have hkI : (k : Int) < (ml : Int) := by omega
      obtain ⟨b, off, hao, hbb, hc⟩ := (unhide HM).ne (by omega)
      have hck := hc k hltM
      have hr := (unhide HS).row k
      have hxs := ((unhide HS).2 _ (rwAt_mem hltM)).2
      have hn0 := (unhide HM).nums hltM
      have HR1' := hide (fun j hj h => (show ce = false by rw [← unhide HE]; exact lit_false (q := q) hltM (j := j) hj h))
      have HQN := hide (fun (h : ∀ j, j < (rwAt M k).R.length → litN q (nmAt (rwAt M k).R j) = true) => (show ∀ a, a < k + 1 → ∀ j, j < (rwAt M a).R.length → litN q (nmAt (rwAt M a).R j) = true from fun a hqk j hj => by
        rcases Nat.lt_succ_iff_lt_or_eq.1 hqk with h' | rfl
        · exact hq.out a h' j hj
        · exact h j hj))
      obtain ⟨R, hR⟩ : ∃ R, (rwAt M k).R = R := ⟨_, rfl⟩
      rw [hR] at hck hr hxs hn0 HR1' HQN
      have HCK := hide (fun w' (h : Below w.heap.size w w') => (show w'.cell? ⟨b, off + k, none⟩ = some (.slice (rwAt M k).ao R.length (rwAt M k).cap) by rw [h.cell (p := ⟨b, off + k, none⟩) hbb]; exact hck))
      generalize (rwAt M k).ao = a1 at *
      generalize (rwAt M k).cap = c1 at *
      have HN := hide hn0
      have HX := hide hxs
      obtain ⟨rl, hrl⟩ : ∃ rl, R.length = rl := ⟨_, rfl⟩
      rw [hrl] at HCK hr HQN
      have HRL := hide hrl
      subst hao
      clear hc hck hxs hn0 hq hltM hrl hR HE
      go_wp2_with fail
      go_loopw [6] (fun i wq => ∃ j : Nat, j ≤ rl ∧ i = .int .i64 j ∧ Hid (∀ j', j' < j → litN q (nmAt R j') = true) ∧ Below w.heap.size w wq) (fun i _ => rl - (intOf i).toNat)
      case atStart => exact ⟨0, Nat.zero_le _, rfl, by unfold Hid; intro j hj; omega, hb⟩
      case round =>
        obtain ⟨j, hj, rfl, hqj, hbq⟩ := hrel
        have hck := unhide HCK _ hbq
        by_cases hjl : j < rl
        · have hjR : j < R.length := by rw [unhide HRL]; exact hjl
          obtain ⟨b1, o1, hao1, hb1, hc1⟩ := ((unhide HN).below hbq).ne (by omega)
          obtain ⟨d1, d2⟩ := hc1 j hjR
          have hlx := ((unhide HN).below hbq).limbs hjR
          have hxl := unhide HX _ (nmAt_mem hjR)
          have HR2 := hide (fun h => unhide HR1' j hjR h)
          have HQ2 := hide (fun (h : litN q (nmAt R j) = true) => (show ∀ j', j' < j + 1 → litN q (nmAt R j') = true from fun j' hj' => by
            rcases Nat.lt_succ_iff_lt_or_eq.1 hj' with h' | rfl
            · exact hqj.out j' h'
            · exact h))
          obtain ⟨x, hx⟩ : ∃ x, nmAt R j = x := ⟨_, rfl⟩
          rw [hx] at d1 d2 hlx hxl HR2 HQ2
          have hjI : (j : Int) < (rl : Int) := by omega
          obtain ⟨nx, ax, cx, Lx⟩ := x
          simp only at d1 d2 hlx hxl
          have CR := hide (right_any nx ax cx Lx _ hlx hxl)
          have HRB : Hid (litN q ⟨nx, ax, cx, Lx⟩ = !(decide (q < Lx.length) && rightB nx Lx)) := rfl
          subst hao1
          clear hc1 hlx hx hqj hjR HR1'
          by_cases h8 : q < Lx.length
          · have h8' : (q : Int) < (Lx.length : Int) := by omega
            go_wp2_with fail
            refine (unhide CR).mono ?_
            rintro e w1 ⟨rfl, hb1⟩
            have hbq1 := hbq.trans (hb1.mono hbq.size)
            by_cases hrb : rightB nx Lx = true
            · rw [hrb]
              have HC1 := hide (unhide HR2 (by rw [HRB.out, hrb, decide_eq_true h8]; rfl))
              have BQ := hide hbq1
              clear HQ2 HR2 hb1 hbq1 hck d1 d2 hbq hrb HRB CR
              go_wp2_with fail
              go_ret
              exact ⟨ret_bool (unhide HC1).symm, unhide BQ⟩
            · have hrf : rightB nx Lx = false := by simpa using hrb
              rw [hrf]
              have HQ3 := hide (unhide HQ2 (by rw [HRB.out, hrf, Bool.and_false]; rfl))
              have BQ := hide hbq1
              clear HQ2 HR2 hb1 hbq1 hck d1 d2 hbq hrb hrf HRB CR
              go_wp2_with fail
              go_roundw
              case rel => exact ⟨j + 1, by omega, by go_num, HQ3, unhide BQ⟩
              case measure => simp [intOf]; omega
          · have h8' : ¬ (q : Int) < (Lx.length : Int) := by omega
            have HQ3 := hide (unhide HQ2 (by rw [HRB.out, decide_eq_false h8]; rfl))
            clear HQ2 HR2 HRB CR
            go_wp2_with fail
            go_roundw
            case rel => exact ⟨j + 1, by omega, by go_num, HQ3, hbq⟩
            case measure => simp [intOf]; omega
        · have hjj : rl = j := by omega
          have HQ3 := hide (unhide HQN (fun j' hj' => hqj.out j' (by have := unhide HRL; omega)))
          have BQ := hide hbq
          subst hjj
          clear hqj hbq HQN HR1'
          go_wp2_with fail
          go_roundw
          case rel => exact ⟨k + 1, by omega, by go_num, HQ3, unhide BQ⟩
          case measure => simp [intOf]; omega
    · have hkk : ml = k := by omega
      have HC := hide (show ce = true by rw [← unhide HE]; exact lit_true (fun a ha j hj => hq.out a (by have := unhide HL; omega) j hj))
      subst hkk
      clear hq HE
      go_wp2_with fail
      go_ret
      exact ⟨ret_bool (unhide HC).symm, hb⟩

end Go.Proofs.Ytlcidapdmgchoaa

/- Contracts of the reference's First, without. -/
namespace Go.Proofs.Ytlcidapdmgchoaa
open Go.RowKit
attribute [local go_sem ↓] Go.wp_at_zero Go.wp_at_succ

def intV (x : Int) : Value := .int .i64 x
theorem infoInt : (Try.prog.info? 3).map (fun i => (i.zero, i.size, i.bytes)) = some (some (.int .i64 0), 1, 8) := by kernel_rfl

theorem own_ints {w : World} {base n : Nat} {v : Value} {I : List Int} (h : w.ownsRow base 3 1 v n (I.map intV)) (hf : ∀ x ∈ I, -9223372036854775808 ≤ x ∧ x ≤ 9223372036854775807) : ∃ ao cap, v = .slice ao I.length cap ∧ IntsAt w ao cap I := by
  have hl : I.length = n := by have := h.1; simpa using this
  rcases h.2 with ⟨hv, h0⟩ | ⟨g, cap, cur, hv, hg, hh, hc, hm, hs, ht⟩
  · have : I = [] := List.length_eq_zero_iff.1 (by omega)
    subst this
    exact ⟨none, 0, hv, ⟨by simp, by simp, .inl rfl⟩⟩
  · refine ⟨some ⟨g, 0, none⟩, cap, by rw [hl]; exact hv, ⟨by omega, hf, .inr ⟨g, 0, rfl, (Array.getElem?_eq_some_iff.1 hh).1, fun i hi => ?_⟩⟩⟩
    have q : (I.map intV)[i]? = some (.int .i64 (I[i]?.getD 0)) := by
      rw [List.getElem?_map, List.getElem?_eq_getElem hi]; rfl
    rw [← ht, List.getElem?_take, if_pos (by omega)] at q
    rw [cell_of_row w g _ _ _ _ hh, Nat.zero_add]
    simpa using q

/-- 0, 1, .. below n. -/
def firstI (n : Nat) : List Int := (List.range n).map (fun i : Nat => (i : Int))
theorem firstI_succ (n : Nat) : firstI (n + 1) = firstI n ++ [(n : Int)] := by simp [firstI, List.range_succ]
theorem length_firstI (n : Nat) : (firstI n).length = n := by simp [firstI]

set_option maxHeartbeats 4000000 in
theorem first_any (n : Nat) (w : World) (hn : n ≤ 1000) :
    Calls Try.prog 15 #[.int .i64 (n : Int)] w fun e w' => ∃ ao cap, e = .returned (.slice ao n cap) ∧ IntsAt w' ao cap (firstI n) ∧ Below w.heap.size w w' := by
  obtain ⟨i0, hi, hz0, hz1, hz2⟩ := info_parts infoInt
  go_enter Try.func15, Try.ntmps15
  go_wp2_with fail
  go_loopw [3, 4] (fun v i wr => ∃ k : Nat, k ≤ n ∧ i = .int .i64 k ∧ wr.ownsRow w.heap.size 3 1 v k ((firstI k).map intV) ∧ Below w.heap.size w wr) (fun _ i _ => n - (intOf i).toNat)
  case atStart =>
    refine ⟨0, Nat.zero_le _, rfl, ?_, (Below.refl _ _).alloc (Nat.le_refl _) _⟩
    exact World.ownsRow_made w #[] 0 (Nat.le_refl _) (by simp [maxLen]) (by simp)
  case round =>
    obtain ⟨k, hk, rfl, hown, hbel⟩ := hrel
    by_cases hlt : k < n
    · have hkI : (k : Int) < (n : Int) := by omega
      have hsz := hbel.size
      go_wp2_with (at_builtin; refine wpList_append_own _ rfl _ _ 35 rfl w.heap.size 3 i0 (.int .i64 0) 1 8 Try.underlying35 hi hz0 hz1 hz2 rfl (by decide) _ _ _ rfl (hown.alloc _) ⟨wr.heap.size, 0, none⟩ 1 1 [.int .i64 (k : Int)] rfl rfl (cell_one_new _ _ _) (fun u hu => by simp at hu; subst hu; rfl) (by unfold maxLen; omega) (by omega) (by simp; omega) ?_; intro v' w1 hown' hgrow _; have hbl : Below w.heap.size w w1 := ((hbel.alloc hsz _).grown hgrow (by simp; omega) (fun g hg => (hown.lt g hg).1)); have ho2 := hide hown'; clear hown' hgrow)
      have h2 := unhide ho2
      go_roundw
      case rel => exact ⟨k + 1, by omega, by go_num, by rw [firstI_succ, List.map_append]; exact h2, hbl⟩
      case measure => simp [intOf]; omega
    · have hkk : n = k := by omega
      subst hkk
      obtain ⟨a5, c5, e5, q1⟩ := own_ints hown (fun x hx => by
        obtain ⟨i, hi, rfl⟩ := List.mem_map.1 hx
        have := List.mem_range.1 hi
        omega)
      rw [length_firstI] at e5
      subst e5
      have Q1 := hide q1
      clear q1 hown
      go_wp2_with fail
      go_ret
      exact ⟨a5, c5, rfl, unhide Q1, hbel⟩

theorem eraseIdx_eq (I : List Int) (k : Nat) : I.eraseIdx k = I.take k ++ I.drop (k + 1) := List.eraseIdx_eq_take_drop_succ I k

set_option maxHeartbeats 4000000 in
theorem withoutI_any (ao : Option Addr) (cap : Nat) (I : List Int) (k : Nat) (w : World) (h : IntsAt w ao cap I) (hk : k < I.length) (hl : I.length ≤ 1000000) :
    Calls Try.prog 36 #[.slice ao I.length cap, .int .i64 (k : Int)] w fun e w' => ∃ ao' cap', e = .returned (.slice ao' (I.eraseIdx k).length cap') ∧ IntsAt w' ao' cap' (I.eraseIdx k) ∧ Below w.heap.size w w' := by
  obtain ⟨i0, hi, hz0, hz1, hz2⟩ := info_parts infoInt
  obtain ⟨b, off, rfl, hb, hc⟩ := h.ne (by omega)
  have hcap := h.1
  have hrng := h.2.1
  have HE : Hid (I.eraseIdx k = I.take k ++ I.drop (k + 1)) := eraseIdx_eq I k
  have hlen : (I.eraseIdx k).length = k + (I.length - (k + 1)) := by rw [HE.out]; simp; omega
  have N1 := hide (fun w' (hw : Below w.heap.size w w') => (show ∀ j u, ((I.take k).map intV)[j]? = some u → w'.cell? ((⟨b, off, none⟩ : Addr).add j) = some u from fun j u hj => by
    have hjl : j < k := by
      have := (List.getElem?_eq_some_iff.1 hj).1
      simp at this; omega
    rw [show (⟨b, off, none⟩ : Addr).add j = ⟨b, off + j, none⟩ by simp [Addr.add], hw.cell (p := ⟨b, off + j, none⟩) hb, hc j (by omega)]
    rw [List.getElem?_map, List.getElem?_take, if_pos hjl, List.getElem?_eq_getElem (by omega)] at hj
    rw [List.getElem?_eq_getElem (by omega)]
    simpa [intV] using hj))
  have N2 := hide (fun w' (hw : Below w.heap.size w w') => (show ∀ j u, ((I.drop (k + 1)).map intV)[j]? = some u → w'.cell? ((⟨b, off + (k + 1), none⟩ : Addr).add j) = some u from fun j u hj => by
    have hjl : k + 1 + j < I.length := by
      have := (List.getElem?_eq_some_iff.1 hj).1
      simp at this; omega
    rw [show (⟨b, off + (k + 1), none⟩ : Addr).add j = ⟨b, off + (k + 1 + j), none⟩ by simp only [Addr.add]; split <;> simp <;> omega, hw.cell (p := ⟨b, off + (k + 1 + j), none⟩) hb, hc _ hjl]
    rw [List.getElem?_map, List.getElem?_drop, List.getElem?_eq_getElem hjl] at hj
    rw [List.getElem?_eq_getElem hjl]
    simpa [intV] using hj))
  have hkI : (k : Int) < (I.length : Int) := by omega
  generalize hIl : I.length = il at *
  have HIL := hide hIl
  clear h hc hIl
  have O0 : Hid ((w.alloc (.cells #[] 3)).ownsRow w.heap.size 3 1 (.slice (some ⟨w.heap.size, 0, none⟩) 0 0) 0 (([] : List Int).map intV)) := hide (World.ownsRow_made w #[] 0 (Nat.le_refl _) (by simp [maxLen]) (by simp))
  have B0 : Below w.heap.size w (w.alloc (.cells #[] 3)) := (Below.refl _ _).alloc (Nat.le_refl _) _
  have hL1 : ((I.take k).map intV).length = k * 1 := by have := unhide HIL; simp; omega
  have hL2 : ((I.drop (k + 1)).map intV).length = (il - (k + 1)) * 1 := by have := unhide HIL; simp; omega
  have hone : ∀ (J : List Int), ∀ u ∈ J.map intV, u.oneCell' = true := fun J u hu => by
    obtain ⟨x, _, rfl⟩ := List.mem_map.1 hu; rfl
  have FIN := hide (fun (w2 : World) (v2 : Value) (ho : w2.ownsRow w.heap.size 3 1 v2 (0 + k + (il - (k + 1))) (([] : List Int).map intV ++ (I.take k).map intV ++ (I.drop (k + 1)).map intV)) => by
    have e : ([] : List Int).map intV ++ (I.take k).map intV ++ (I.drop (k + 1)).map intV = (I.eraseIdx k).map intV := by rw [HE.out]; simp
    rw [e] at ho
    exact own_ints ho (fun x hx => hrng x (List.mem_of_mem_eraseIdx hx)))
  have HONE := hide hone
  have h1 : (k : Int) + 1 ≤ (il : Int) := by omega
  clear hone hrng HE
  by_cases hce : cap = k + 1
  · have e0 : ((I.drop (k + 1)).map intV) = [] := List.length_eq_zero_iff.1 (by omega)
    have N3 := hide (fun (w' : World) => (show ∀ j u, ((I.drop (k + 1)).map intV)[j]? = some u → w'.cell? ((⟨b, off, none⟩ : Addr).add j) = some u from fun j u hj => by rw [e0] at hj; simp at hj))
    clear e0
    go_enter Try.func36, Try.ntmps36
    go_wp2_with (first | (at_builtin; refine wpList_append_own _ rfl _ _ 35 rfl w.heap.size 3 i0 (.int .i64 0) 1 8 Try.underlying35 hi hz0 hz1 hz2 rfl (by decide) _ _ _ rfl (unhide O0) ⟨b, off, none⟩ k _ ((I.take k).map intV) rfl hL1 (unhide N1 _ B0) (unhide HONE _) (by unfold maxLen; omega) (by omega) (by simp) ?_; intro v1 w1 hown hgrow _; have O1 := hide hown; have hB' := below_of_grown B0 hgrow (by simp) (fun m hm => ((unhide O0).lt m hm).1); have B1 := hide hB'; clear hown hgrow hB') | (at_builtin; refine wpList_append_own _ rfl _ _ 35 rfl w.heap.size 3 i0 (.int .i64 0) 1 8 Try.underlying35 hi hz0 hz1 hz2 rfl (by decide) _ _ _ rfl (unhide O1) ⟨b, off, none⟩ (il - (k + 1)) _ ((I.drop (k + 1)).map intV) rfl hL2 (unhide N3 _) (unhide HONE _) (by unfold maxLen; omega) (by omega) ((unhide B1).size) ?_; intro v2 w2 hown hgrow _; have O2 := hide hown; have hB' := below_of_grown (unhide B1) hgrow ((unhide B1).size) (fun m hm => ((unhide O1).lt m hm).1); have B2 := hide hB'; clear hown hgrow hB') | fail "NO LAW2")
    obtain ⟨a5, c5, e5, q5⟩ := unhide FIN _ _ (unhide O2)
    subst e5
    have Q5 := hide q5
    clear q5 O0 O1 O2
    go_wp2_with fail
    go_ret
    exact ⟨a5, c5, rfl, unhide Q5, unhide B2⟩
  · have hce' : ¬ (k + 1 = cap) := by omega
    go_enter Try.func36, Try.ntmps36
    go_wp2_with (first | (at_builtin; refine wpList_append_own _ rfl _ _ 35 rfl w.heap.size 3 i0 (.int .i64 0) 1 8 Try.underlying35 hi hz0 hz1 hz2 rfl (by decide) _ _ _ rfl (unhide O0) ⟨b, off, none⟩ k _ ((I.take k).map intV) rfl hL1 (unhide N1 _ B0) (unhide HONE _) (by unfold maxLen; omega) (by omega) (by simp) ?_; intro v1 w1 hown hgrow _; have O1 := hide hown; have hB' := below_of_grown B0 hgrow (by simp) (fun m hm => ((unhide O0).lt m hm).1); have B1 := hide hB'; clear hown hgrow hB') | (at_builtin; refine wpList_append_own _ rfl _ _ 35 rfl w.heap.size 3 i0 (.int .i64 0) 1 8 Try.underlying35 hi hz0 hz1 hz2 rfl (by decide) _ _ _ rfl (unhide O1) ⟨b, off + (k + 1), none⟩ (il - (k + 1)) _ ((I.drop (k + 1)).map intV) rfl hL2 (unhide N2 _ (unhide B1)) (unhide HONE _) (by unfold maxLen; omega) (by omega) ((unhide B1).size) ?_; intro v2 w2 hown hgrow _; have O2 := hide hown; have hB' := below_of_grown (unhide B1) hgrow ((unhide B1).size) (fun m hm => ((unhide O1).lt m hm).1); have B2 := hide hB'; clear hown hgrow hB') | fail "NO LAW2")
    obtain ⟨a5, c5, e5, q5⟩ := unhide FIN _ _ (unhide O2)
    subst e5
    have Q5 := hide q5
    clear q5 O0 O1 O2
    go_wp2_with fail
    go_ret
    exact ⟨a5, c5, rfl, unhide Q5, unhide B2⟩

end Go.Proofs.Ytlcidapdmgchoaa

