/- Part 37 of the texts. -/
import Derived.Test.YtfnnbkclnflpfaaGreatDoorPartK35
import Derived.Test.YtfnnbkclnflpfaaGreatDoorPartK36
import Derived.Test.YtfnnbkclnflpfaaGreatDoorPartK34
import Derived.Test.YtfnnbkclnflpfaaGreatDoorPartK25
import Derived.Test.YtfnnbkclnflpfaaGreatDoorPartK28
import Derived.Test.YtfnnbkclnflpfaaGreatDoorPartK18
import Derived.Test.YtfnnbkclnflpfaaGreatDoorChecked
import Derived.Test.YtfnnbkclnflpfaaGreatDoorPartK03
import Derived.ProofKit
import Derived.SizedLaws
import Derived.Lib.SmallJoins
import Derived.Test.YtfnnbkclnflpfaaGreatDoorRows
import Derived.Test.YtfnnbkclnflpfaaGreatDoorPartK11
import Derived.Lib.LaidTab
import Derived.OpenShut
import Derived.Deep.DeepHandedRow
/- The reference of layer 11: Rank. -/
namespace Go.Proofs.YtfnnbkclnflpfaaGreatDoor
open Go.RowKit
attribute [local go_sem ↓] Go.wp_at_zero Go.wp_at_succ

/-- An append, by what it does. -/
theorem wpList_append_ex {P : Program} {w : World} {ops : Array Oper} {rest : List Oper} {o : Oper} {a : Act} {Q : Exit → Act → World → Prop} (hgd : o.guard = none) (s x : Operand) (t : TypeId)
    (ho : o.op = .call { callee := .builtin .append, args := #[s, x], argTypes := #[t, t] }) (v1 v2 : Value) (n : Nat) (F : Option Addr → Nat → World → Prop) (hs : a.eval s = v1) (hx : a.eval x = v2)
    (hr : ∃ po pc w', (Builtin.append_ #[t, t] o.type #[v1, v2]).run P w = .ok (.slice po n pc) w' ∧ F po pc w') (h : ∀ po pc w', F po pc w' → wpList P ops Q rest (a.put o.dst (.slice po n pc)) w') :
    wpList P ops Q (o :: rest) a w := by
  refine wpList_plain hgd fun K hK => ?_
  obtain ⟨po, pc, w', hrun, hF⟩ := hr
  unfold Oper.wp execOp
  simp only [ho, resolve, invoke, builtin, Sem.run_bind, Sem.run_pure, Result.andThen_ok, List.map_toArray, List.map_cons, List.map_nil, hs, hx, hrun]
  exact hK _ _ (h po pc w' hF)

theorem Av.ofClear {w : World} {v : Value} {x : Nm} (h : Clear w v) (hx : LimbsAt w x.ao x.cap x.L) : Av v.ownBlock x := by
  rcases h.limbs hx with e | ⟨b, off, e, _, h3, _⟩
  · exact .inl e
  · exact .inr ⟨b, off, e, h3⟩
theorem Clear.grownOther {w w' : World} {v : Value} {o : Option Nat} (h : Clear w v) (hg : w.grownBy w' o) (hne : ∀ g, v.ownBlock = some g → some g ≠ o) : Clear w' v := by
  intro g hv
  obtain ⟨cur, e, h1, h2⟩ := h g hv
  exact ⟨cur, e, (hg.block g (Array.getElem?_eq_some_iff.1 h1).1 (hne g hv)).trans h1, h2⟩
theorem Clear.empty (w : World) (t : TypeId) : Clear (w.alloc (.cells #[] t)) (.slice (some ⟨w.heap.size, 0, none⟩) 0 0) := by
  intro g hg
  cases hg
  exact ⟨#[], t, heap_alloc_new w _, by simp⟩

set_option maxRecDepth 20000 in
theorem infoRw : (Tryz.prog.info? 87).map (fun i => (i.zero, i.size, i.bytes)) = some (some (.slice none 0 0), 1, 24) := by kernel_rfl

/-- One number more in a row of the call's own. -/
theorem OwnNums.push {base : Nat} {W : World} {v : Value} {R : List Nm} (h : OwnNums base W v R) (hC : Clear W v) (x : Nm) (hx : LimbsAt W x.ao x.cap x.L) (B : Nat) (hc : W.heap[B]? = some (.cells #[.bool x.neg, .slice x.ao x.L.length x.cap] 27 (0, 0))) (hn : R.length ≤ 1000000) (hb : base ≤ W.heap.size) (ty : TypeId) :
    ∃ po pc w', (Builtin.append_ #[87, 87] ty #[v, .slice (some ⟨B, 0, none⟩) 1 1]).run Tryz.prog W = .ok (.slice po (R.length + 1) pc) w' ∧ (OwnNums base w' (.slice po (R.length + 1) pc) (R ++ [x]) ∧ Clear w' (.slice po (R.length + 1) pc) ∧ W.grownBy w' v.ownBlock) := by
  obtain ⟨i0, hi, hz0, hz1, hz2⟩ := info_parts infoWh
  obtain ⟨v', w', e1, e2, e3, e4, e5⟩ := run_append_clear (P := Tryz.prog) W base 87 ty 27 i0 (.agg #[.bool false, .slice none 0 0]) 2 32 Tryz.underlying87 hi hz0 hz1 hz2 rfl (by decide) v R.length (numCells R) h.1 ⟨B, 0, none⟩ 1 1 [.bool x.neg, .slice x.ao x.L.length x.cap] rfl
    (fun j u hu => by
      rw [show (⟨B, 0, none⟩ : Addr).add j = ⟨B, j, none⟩ by unfold Addr.add; split <;> simp_all, cell_of_row W B j _ _ _ hc]
      simpa using hu)
    (fun u hu => by simp at hu; rcases hu with rfl | rfl <;> rfl) (by unfold maxLen; omega) (by omega) hb (by omega) hC
    (fun u hu => by simp [Value.cells] at hu; rcases hu with rfl | rfl <;> rfl) (fun u hu => by simp at hu; rcases hu with rfl | rfl <;> rfl)
  have hv : ∃ po pc, v' = .slice po (R.length + 1) pc := by
    rcases e2.2 with ⟨_, e⟩ | ⟨g, cap, cur, hv, _⟩
    · omega
    · exact ⟨_, _, hv⟩
  obtain ⟨po, pc, rfl⟩ := hv
  exact ⟨po, pc, w', e1, h.snoc hx (Av.ofClear hC hx) e2 e3 e4, e5, e3⟩
/-- One row more. -/
theorem OwnRows.push {base : Nat} {W : World} {v : Value} {M : List Rw} (h : OwnRows base W v M) (hC : Clear W v) (x : Rw) (hx : NumsAt W x.ao x.cap x.R) (ha : AvR v.ownBlock x) (B : Nat) (hc : W.heap[B]? = some (.cells #[.slice x.ao x.R.length x.cap] 87 (0, 0))) (hn : M.length ≤ 1000000) (hb : base ≤ W.heap.size) (ty : TypeId) :
    ∃ po pc w', (Builtin.append_ #[86, 86] ty #[v, .slice (some ⟨B, 0, none⟩) 1 1]).run Tryz.prog W = .ok (.slice po (M.length + 1) pc) w' ∧ (OwnRows base w' (.slice po (M.length + 1) pc) (M ++ [x]) ∧ Clear w' (.slice po (M.length + 1) pc) ∧ W.grownBy w' v.ownBlock) := by
  obtain ⟨i0, hi, hz0, hz1, hz2⟩ := info_parts infoRw
  obtain ⟨v', w', e1, e2, e3, e4, e5⟩ := run_append_clear (P := Tryz.prog) W base 86 ty 87 i0 (.slice none 0 0) 1 24 Tryz.underlying86 hi hz0 hz1 hz2 rfl (by decide) v M.length (M.map Rw.v) h.1 ⟨B, 0, none⟩ 1 1 [.slice x.ao x.R.length x.cap] rfl
    (fun j u hu => by
      rw [show (⟨B, 0, none⟩ : Addr).add j = ⟨B, j, none⟩ by unfold Addr.add; split <;> simp_all, cell_of_row W B j _ _ _ hc]
      simpa using hu)
    (fun u hu => by simp at hu; subst hu; rfl) (by unfold maxLen; omega) (by omega) hb (by omega) hC
    (fun u hu => by simp [Value.cells] at hu; subst hu; rfl) (fun u hu => by simp at hu; subst hu; rfl)
  have hv : ∃ po pc, v' = .slice po (M.length + 1) pc := by
    rcases e2.2 with ⟨_, e⟩ | ⟨g, cap, cur, hv, _⟩
    · omega
    · exact ⟨_, _, hv⟩
  obtain ⟨po, pc, rfl⟩ := hv
  exact ⟨po, pc, w', e1, h.snoc hx ha e2 e3 e4, e5, e3⟩

/-- A row's numbers, the first k of f. -/
def RwZ (R : List Nm) (f : Nat → Int) (k : Nat) : Prop := R.length = k ∧ ∀ j, j < k → Canon (nmAt R j).L ∧ (nmAt R j).neg = decide (f j < 0) ∧ val (nmAt R j).L = (f j).natAbs ∧ (nmAt R j).L.length ≤ 35184372088832
theorem RwZ.snoc {R : List Nm} {f : Nat → Int} {k : Nat} {x : Nm} (h : RwZ R f k) (hx : Canon x.L ∧ x.neg = decide (f k < 0) ∧ val x.L = (f k).natAbs ∧ x.L.length ≤ 35184372088832) : RwZ (R ++ [x]) f (k + 1) := by
  refine ⟨by simp [h.1], fun j hj => ?_⟩
  rw [nmAt_snoc, h.1]
  by_cases e : j < k
  · rw [if_pos e]; exact h.2 j e
  · obtain rfl : j = k := by omega
    rw [if_neg e, if_pos rfl]; exact hx
/-- The rows' numbers, the first j rows of F. -/
def MtZ (M : List Rw) (F : Nat → Nat → Int) (j c : Nat) : Prop := M.length = j ∧ ∀ i, i < j → RwZ (rwAt M i).R (F i) c
theorem MtZ.snoc {M : List Rw} {F : Nat → Nat → Int} {j c : Nat} {x : Rw} (h : MtZ M F j c) (hx : RwZ x.R (F j) c) : MtZ (M ++ [x]) F (j + 1) c := by
  refine ⟨by simp [h.1], fun i hi => ?_⟩
  rw [rwAt_snoc, h.1]
  by_cases e : i < j
  · rw [if_pos e]; exact h.2 i e
  · obtain rfl : i = j := by omega
    rw [if_neg e, if_pos rfl]; exact hx

/-- What holds in the reference's Rank: the matrix's box, the rows. -/
def RkO (w wr : World) (r c n cap : Nat) (ao : Option Addr) (v : Value) (M : List Rw) : Prop :=
  BoxM wr w.heap.size (.int .i64 r) (.int .i64 c) (.slice ao n cap) ∧ OwnRows (w.heap.size + 1) wr v M ∧ Clear wr v ∧ Below w.heap.size w wr
/-- Inside: a row, besides; all else lies below B. -/
def RkI (w : World) (B : Nat) (wr : World) (r c n cap : Nat) (ao : Option Addr) (v u : Value) (M : List Rw) (R : List Nm) : Prop :=
  RkO w wr r c n cap ao v M ∧ OwnNums B wr u R ∧ Clear wr u ∧ w.heap.size + 1 ≤ B ∧ B ≤ wr.heap.size ∧ (∀ m, v.ownBlock = some m → m < B) ∧ ∀ x ∈ M, x.R = [] ∨ ∃ b off, x.ao = some ⟨b, off, none⟩ ∧ b < B
theorem RkO.all {w wr w' : World} {r c n cap : Nat} {ao : Option Addr} {v : Value} {M : List Rw} (h : RkO w wr r c n cap ao v M) (hb : Below wr.heap.size wr w') : RkO w w' r c n cap ao v M :=
  ⟨h.1.all hb, h.2.1.below hb, h.2.2.1.below hb, h.2.2.2.trans (hb.mono h.2.2.2.size)⟩
theorem RkI.all {w : World} {B : Nat} {wr w' : World} {r c n cap : Nat} {ao : Option Addr} {v u : Value} {M : List Rw} {R : List Nm} (h : RkI w B wr r c n cap ao v u M R) (hb : Below wr.heap.size wr w') : RkI w B w' r c n cap ao v u M R :=
  ⟨h.1.all hb, h.2.1.below hb, h.2.2.1.below hb, h.2.2.2.1, Nat.le_trans h.2.2.2.2.1 hb.size, h.2.2.2.2.2⟩
theorem RkO.start (w : World) (r c n cap : Nat) (ao : Option Addr) : RkO w ((w.alloc (.cells #[.int .i64 r, .int .i64 c, .slice ao n cap] 24)).alloc (.cells #[] 87)) r c n cap ao (.slice (some ⟨w.heap.size + 1, 0, none⟩) 0 0) [] := by
  have b0 := below_alloc9 w (.cells #[.int .i64 r, .int .i64 c, .slice ao n cap] 24)
  have s0 := size_alloc9 w (.cells #[.int .i64 r, .int .i64 c, .slice ao n cap] 24)
  have x0 := BoxM.new w (.int .i64 r) (.int .i64 c) (.slice ao n cap)
  generalize w.alloc (.cells #[.int .i64 r, .int .i64 c, .slice ao n cap] 24) = w0 at *
  have b1 := below_alloc9 w0 (.cells #[] 87)
  have o1 := OwnRows.start w0 (w.heap.size + 1) (by omega)
  have c1 := Clear.empty w0 87
  rw [s0] at o1 c1
  exact ⟨x0.all b1, o1, c1, b0.trans (b1.mono b0.size)⟩
theorem RkO.inner {w wr : World} {r c n cap : Nat} {ao : Option Addr} {v : Value} {M : List Rw} (h : RkO w wr r c n cap ao v M) : RkI w wr.heap.size (wr.alloc (.cells #[] 27)) r c n cap ao v (.slice (some ⟨wr.heap.size, 0, none⟩) 0 0) M [] := by
  have b1 := below_alloc9 wr (.cells #[] 27)
  have hl := h.1.lt
  refine ⟨h.all b1, OwnNums.start wr _ (Nat.le_refl _), Clear.empty wr _, by omega, b1.size, fun m hm => (h.2.1.lt m hm).2, fun x hx => ?_⟩
  rcases (h.2.1.2 x hx).1.2.2 with e | ⟨b, off, e1, e2, _⟩
  · exact .inl e
  · exact .inr ⟨b, off, e1, e2⟩
/-- A number more. -/
theorem RkI.push {w : World} {B : Nat} {w4 : World} {r c n cap : Nat} {ao : Option Addr} {v u : Value} {M : List Rw} {R : List Nm} {k : Nat} {f : Nat → Int} (h : RkI w B w4 r c n cap ao v u M R) (hR : RwZ R f k) (ng : Bool) (a : Option Addr) (l cp : Nat) (hx : IsNum 0 w4 (.agg #[.bool ng, .slice a l cp]) (f k)) (hn : k ≤ 36) (ty : TypeId) :
    ∃ qo qc w', (Builtin.append_ #[87, 87] ty #[u, .slice (some ⟨w4.heap.size, 0, none⟩) 1 1]).run Tryz.prog (w4.alloc (.cells #[.bool ng, .slice a l cp] 27)) = .ok (.slice qo (k + 1) qc) w' ∧ ∃ R', RkI w B w' r c n cap ao v (.slice qo (k + 1) qc) M R' ∧ RwZ R' f (k + 1) := by
  have ba := below_alloc9 w4 (.cells #[.bool ng, .slice a l cp] 27)
  obtain ⟨x, ex, hx'⟩ := (hx.below ba).nm
  simp only [Value.agg.injEq, Array.mk.injEq, List.cons.injEq, Value.bool.injEq, Value.slice.injEq, and_true] at ex
  obtain ⟨rfl, rfl, rfl, rfl⟩ := ex
  obtain ⟨⟨h1, h2, h3, h4⟩, h5, h6, h7, h8, h9, h10⟩ := h.all ba
  have hk := hR.1
  subst hk
  obtain ⟨qo, qc, w', e1, o2, c2, hg⟩ := h5.push h6 x hx'.1 w4.heap.size (heap_alloc_new w4 _) (by omega) h8 ty
  have hl := h5.lt
  have hs := hg.size
  refine ⟨qo, qc, w', e1, R ++ [x], ⟨⟨h1.grown hg (fun e => ?_), h2.grown hg (fun m hm e => ?_) (fun y hy => ?_), h3.grownOther hg (fun m hm e => ?_), h4.grown hg h4.size (fun m hm => ?_)⟩, o2, c2, h7, by omega, h9, h10⟩, hR.snoc hx'.2⟩
  · have := (hl _ e).1; omega
  · have := (hl _ e.symm).1; have := h9 m hm; omega
  · refine ⟨?_, fun z hz => Av.ofClear h6 ((h2.2 y hy).1.2.1 z hz)⟩
    rcases h10 y hy with e | ⟨b, off, e, hb⟩
    · exact .inl e
    · exact .inr ⟨b, off, e, fun e => by have := (hl _ e.symm).1; omega⟩
  · have := (hl _ e.symm).1; have := h9 m hm; omega
  · have := (hl _ hm).1; omega
/-- The row is full: it is appended. -/
theorem RkI.done {w : World} {B : Nat} {w4 : World} {r c n cap : Nat} {ao : Option Addr} {v : Value} {uo : Option Addr} {uc : Nat} {M : List Rw} {R : List Nm} {j : Nat} {F : Nat → Nat → Int} (h : RkI w B w4 r c n cap ao v (.slice uo c uc) M R) (hM : MtZ M F j c) (hR : RwZ R (F j) c) (hn : j ≤ 36) (ty : TypeId) :
    ∃ qo qc w', (Builtin.append_ #[86, 86] ty #[v, .slice (some ⟨w4.heap.size, 0, none⟩) 1 1]).run Tryz.prog (w4.alloc (.cells #[.slice uo c uc] 87)) = .ok (.slice qo (j + 1) qc) w' ∧ ∃ M', RkO w w' r c n cap ao (.slice qo (j + 1) qc) M' ∧ MtZ M' F (j + 1) c := by
  have ba := below_alloc9 w4 (.cells #[.slice uo c uc] 87)
  obtain ⟨⟨h1, h2, h3, h4⟩, h5, h6, h7, h8, h9, h10⟩ := h.all ba
  obtain ⟨a5, c5, e5, q1, q2⟩ := h5.nums
  have hj := hM.1
  have hc := hR.1
  subst hj
  subst hc
  cases e5
  have hav : AvR v.ownBlock ⟨uo, uc, R⟩ := by
    refine ⟨?_, fun z hz => Av.ofClear h3 (q1.2.1 z hz)⟩
    rcases q2 with e | ⟨b', off', e, hb'⟩
    · left; simpa using e
    · exact .inr ⟨b', off', e, fun e => by have := h9 b' e.symm; omega⟩
  obtain ⟨qo, qc, w', e1, o2, c2, hg⟩ := h2.push h3 ⟨uo, uc, R⟩ q1 hav w4.heap.size (heap_alloc_new w4 _) (by omega) (by omega) ty
  have hl := h2.lt
  refine ⟨qo, qc, w', e1, M ++ [⟨uo, uc, R⟩], ⟨h1.grown hg (fun e => ?_), o2, c2, h4.grown hg h4.size (fun m hm => ?_)⟩, hM.snoc hR⟩
  · have := (hl _ e).1; omega
  · have := (hl _ hm).1; omega
theorem RkO.mat {w wr : World} {r c n cap : Nat} {ao : Option Addr} {v : Value} {j : Nat} {M : List Rw} {F : Nat → Nat → Int} (h : RkO w wr r c n cap ao v M) (hM : MtZ M F j c) :
    ∃ po pc, v = .slice po j pc ∧ MatAt wr po pc M ∧ M.length = j ∧ (∀ i, i < j → (rwAt M i).R.length = c) ∧ (∀ i k, i < j → k < c → IsNm wr (entry M i k) (F i k)) := by
  obtain ⟨a5, c5, e5, q1, q2⟩ := h.2.1.mat
  refine ⟨a5, c5, by rw [e5, hM.1], q1, hM.1, fun i hi => (hM.2 i hi).1, fun i k hi hk => ⟨?_, (hM.2 i hi).2 k hk⟩⟩
  have hm : rwAt M i ∈ M := rwAt_mem (by rw [hM.1]; exact hi)
  exact (q1.2.1 _ hm).2.1 _ (nmAt_mem (by rw [(hM.2 i hi).1]; exact hk))

/-- A number at its level, as a whole number. -/
theorem rlevel11 {w : World} {v : Value} {z : Int} (h : IsLv w v (-1074) z) (hz : z.natAbs < 2 ^ 2098) :
    Calls Tryz.prog 69 #[v, .int .i64 (-1074)] w fun e w' => ∃ u, e = .returned u ∧ IsNum 0 w' u z ∧ Below w.heap.size w w' := by
  have hO : (oM z).natAbs < TOP := Nat.lt_of_le_of_lt (oM_le z) (lt_TOP (k := 2098) hz (by decide))
  obtain ⟨neg, ao, cap, L, rfl, h1, h2, h3, h4, _⟩ := IsDy.right h hO
  by_cases h0 : z = 0
  · subst h0
    have hl : L.length = 0 := (sval_zero_iff h2).1 (by rw [h3, oM_zero])
    rw [oE_zero]
    have := level_any neg ao cap L 0 (-1074) w h1 h2 (fun e => absurd hl e) (by omega) (by omega)
    rw [h3, oM_zero, up_zero] at this
    exact this
  · have ht : tz z.natAbs < 2098 := tz_lt _ 2098 (by omega) hz
    have hb : oE z (-1074) = -1074 + (tz z.natAbs : Int) := oE_ne _ _ h0
    have := level_any neg ao cap L (oE z (-1074)) (-1074) w h1 h2 (fun _ => by omega) (by omega) (by omega)
    rw [h3, show up (oM z) (oE z (-1074)) (-1074) = z from oM_level z (-1074) h0] at this
    exact this

set_option maxRecDepth 20000 in
set_option maxHeartbeats 16000000 in
theorem rRank11_of (r c n cap : Nat) (ao : Option Addr) (x : Nat → Nat → Nat) (F : Nat → Nat → Int) (Z : Nat → Prop) (w : World) (hr : r ≤ 6) (hc : c ≤ 6)
    (C1 : ∀ w' i k, Below w.heap.size w w' → i < r → k < c → Calls Tryz.prog 54 #[.agg #[.int .i64 r, .int .i64 c, .slice ao n cap], .int .i64 (i : Nat), .int .i64 (k : Nat)] w' fun e w'' => e = .returned (.int .u64 (x i k : Nat)) ∧ Below w'.heap.size w' w'')
    (C2 : ∀ w' i k, i < r → k < c → Calls Tryz.prog 53 #[.int .u64 (x i k : Nat)] w' fun e w'' => ∃ u, e = .returned u ∧ IsLv w'' u (-1074) (F i k) ∧ Below w'.heap.size w' w'')
    (C3 : ∀ w' i k v, i < r → k < c → IsLv w' v (-1074) (F i k) → Calls Tryz.prog 69 #[v, .int .i64 (-1074)] w' fun e w'' => ∃ u, e = .returned u ∧ IsNum 0 w'' u (F i k) ∧ Below w'.heap.size w' w'')
    (C4 : ∀ w' po pc M, MatAt w' po pc M → M.length = r → (∀ i, i < r → (rwAt M i).R.length = c) → (∀ i k, i < r → k < c → IsNm w' (entry M i k) (F i k)) → Calls Tryz.prog 70 #[.slice po r pc] w' fun e w'' => ∃ k : Nat, e = .returned (.int .i64 (k : Nat)) ∧ Z k ∧ Below w'.heap.size w' w'') :
    Calls Tryz.prog 27 #[.agg #[.int .i64 r, .int .i64 c, .slice ao n cap]] w fun e w' => ∃ k : Nat, e = .returned (.int .i64 (k : Nat)) ∧ Z k ∧ Below w.heap.size w w' := by
  have K1 := hide C1; have K2 := hide C2; have K3 := hide C3; have K4 := hide C4
  have ST := hide (RkO.start w r c n cap ao)
  clear C1 C2 C3 C4
  go_enter Tryz.func27, Tryz.ntmps27
  go_wp2_with fail
  go_loopw [3, 4] (fun v i wr => ∃ (j : Nat) (M : List Rw), j ≤ r ∧ i = .int .i64 j ∧ Hid (RkO w wr r c n cap ao v M) ∧ Hid (MtZ M F j c)) (fun _ i _ => r - (intOf i).toNat)
  case atStart => exact ⟨0, [], Nat.zero_le _, rfl, ST, hide ⟨rfl, fun i hi => by omega⟩⟩
  case round =>
    clear ST
    obtain ⟨j, M, hj, rfl, hS, hM⟩ := hrel
    have y0 := (unhide hS).1.c0
    by_cases hlt : j < r
    · have hjI : (j : Int) < (r : Int) := by omega
      have HI := hide (unhide hS).inner
      clear hS
      go_wp2_with fail
      clear y0
      generalize wr.heap.size = B at *
      go_loopw [5, 6] (fun u i wq => ∃ (k : Nat) (R : List Nm), k ≤ c ∧ i = .int .i64 k ∧ Hid (RkI w B wq r c n cap ao u3 u M R) ∧ Hid (RwZ R (F j) k)) (fun _ i _ => c - (intOf i).toNat)
      case atStart => exact ⟨0, [], Nat.zero_le _, rfl, HI, hide ⟨rfl, fun i hi => by omega⟩⟩
      case round =>
        clear HI
        obtain ⟨k, R, hk, rfl, hS, hR⟩ := hrel
        have y0 := (unhide hS).1.1.c0; have y1 := (unhide hS).1.1.c1; have y2 := (unhide hS).1.1.c2
        by_cases hkc : k < c
        · have hkI : (k : Int) < (c : Int) := by omega
          go_wp2_with fail
          refine (unhide K1 _ j k (unhide hS).1.2.2.2 hlt hkc).mono ?_
          rintro e w1 ⟨rfl, hb1⟩
          replace hS := hide ((unhide hS).all hb1)
          clear hb1 y0 y1 y2
          go_wp2_with fail
          refine (unhide K2 _ j k hlt hkc).mono ?_
          rintro e w2 ⟨q, rfl, lv, hb1⟩
          replace hS := hide ((unhide hS).all hb1)
          have LV := hide lv
          obtain ⟨n2, a2, c2, L2, rfl, _⟩ := lv
          clear hb1
          go_wp2_with fail
          refine (unhide K3 _ j k _ hlt hkc (unhide LV)).mono ?_
          rintro e w4 ⟨q, rfl, ⟨n4, a4, c4, L4, rfl, i4⟩, hb1⟩
          have S4 := hide ((unhide hS).all hb1)
          have Q4 := hide (show IsNum 0 w4 (.agg #[.bool n4, .slice a4 L4.length c4]) (F j k) from ⟨n4, a4, c4, L4, rfl, i4⟩)
          generalize L4.length = l4 at *
          have PU := hide ((unhide S4).push (unhide hR) n4 a4 l4 c4 (unhide Q4) (by omega) 87)
          clear i4 hb1 hS S4 Q4 LV hR
          go_wp2_with (at_builtin; refine wpList_append_ex rfl _ _ 87 rfl _ _ _ _ rfl rfl (unhide PU) ?_; rintro qo qc w5 ⟨R', st, rz⟩; have ST5 := hide st; have RZ5 := hide rz; clear st rz PU)
          go_roundw
          case rel => exact ⟨k + 1, R', by omega, by go_num, ST5, RZ5⟩
          case measure => simp [intOf]; omega
        · have hkk : k = c := by omega
          subst hkk
          obtain ⟨a5, c5, e5⟩ : ∃ a5 c5, u5 = .slice a5 k c5 := by
            obtain ⟨a5, c5, e5, _, _⟩ := (unhide hS).2.1.nums
            exact ⟨a5, c5, by rw [e5, (unhide hR).1]⟩
          subst e5
          have PU := hide ((unhide hS).done (unhide hM) (unhide hR) (by omega) 86)
          clear hS hM hR y2
          go_wp2_with (at_builtin; refine wpList_append_ex rfl _ _ 86 rfl _ _ _ _ rfl rfl (unhide PU) ?_; rintro qo qc w5 ⟨M', st, rz⟩; have ST5 := hide st; have RZ5 := hide rz; clear st rz PU)
          go_roundw
          case rel => exact ⟨j + 1, M', by omega, by go_num, ST5, RZ5⟩
          case measure => simp [intOf]; omega
    · have hjj : j = r := by omega
      subst hjj
      obtain ⟨po, pc, e5, ma⟩ := (unhide hS).mat (unhide hM)
      subst e5
      have MA := hide ma
      have BB := hide (unhide hS).2.2.2
      clear hS hM ma
      go_wp2_with fail
      refine (unhide K4 _ po pc M (unhide MA).1 (unhide MA).2.1 (unhide MA).2.2.1 (unhide MA).2.2.2).mono ?_
      rintro e w7 ⟨k, rfl, hz, hb1⟩
      have HZ := hide hz
      replace BB := hide ((unhide BB).trans (hb1.mono (unhide BB).size))
      clear hz hb1 MA
      go_wp2
      go_ret
      exact ⟨k, rfl, unhide HZ, unhide BB⟩

theorem lt_KK {z : Nat} (h : z < 2 ^ 2098) : z < 2 ^ KK 0 := by
  rw [show KK 0 = 2098 by decide]
  exact h
theorem fin_mkM {r c : Nat} {f : Nat → Nat → Nat} (h : ∀ i k, fFin (f i k) = true) : ∀ x ∈ mkM r c f, fFin x = true := by
  intro x hx
  obtain ⟨p, hp, rfl⟩ := List.getElem_of_mem hx
  have hp' := hp
  rw [mkM_len] at hp'
  have := mkM_get r c f p hp'
  rw [List.getElem?_eq_getElem hp] at this
  injection this with e
  rw [e]
  exact h _ _

/-- The reference's Rank tells the rank. -/
theorem rRank11_any (r c cap : Nat) (ao : Option Addr) (S : List Nat) (w : World) (h : Mx w ao cap r c S) (hf : ∀ x ∈ S, fFin x = true) :
    Calls Tryz.prog 27 #[.agg #[.int .i64 r, .int .i64 c, .slice ao S.length cap]] w fun e w' => ∃ k : Nat, e = .returned (.int .i64 (k : Nat)) ∧ IsRank k (fun i k => fZ (elM c S i k)) r c ∧ Below w.heap.size w w' := by
  refine rRank11_of r c S.length cap ao (fun i k => elM c S i k) (fun i k => fZ (elM c S i k)) (fun k => IsRank k (fun i k => fZ (elM c S i k)) r c) w h.2.2.1 h.2.2.2 (fun w' i k hb hi hk => ?_) (fun w' i k hi hk => rvalueN _ w' (h.el_lt i k) (el_fin c S i k hf)) (fun w' i k v hi hk hv => rlevel11 hv (fZ_lt _ (el_fin c S i k hf))) (fun w' po pc M m2 m1 m3 m4 => ?_)
  · exact rat_any r c cap i k ao S w' (h.below hb) hi hk
  · obtain ⟨q1, q2, q3, q4⟩ := rows11 m1 h.2.2.1 h.2.2.2 m3 m4 (fun i k _ _ => fZ_lt _ (el_fin c S i k hf))
    rcases Nat.eq_zero_or_pos r with h0 | h0
    · subst h0
      have e : M = [] := List.length_eq_zero_iff.1 m1
      subst e
      refine (refRank_nil po pc w' m2).mono ?_
      rintro e w'' ⟨rfl, hb⟩
      exact ⟨0, rfl, rank_norows c, hb⟩
    · have hg := good_of m2 q1
      obtain ⟨b, off, rfl, hbb, hcc⟩ := m2.ne (by omega)
      have C := refRank_any b off pc M (width M) w' m2 q2 hg rfl (by omega) (fun i k hi hk => by rw [q3 i k (by omega) (by rw [q4 h0] at hk; exact hk)]; exact lt_KK (fZ_lt _ (el_fin c S i k hf)))
      rw [m1] at C
      refine C.mono ?_
      rintro e w'' ⟨⟨k, rfl, hk⟩, hb⟩
      refine ⟨k, rfl, rank_of11 m1 q3 q4 ?_, hb⟩
      rw [m1]
      exact unhide hk

end Go.Proofs.YtfnnbkclnflpfaaGreatDoor

/- The law CertifyRanks, walked. -/
namespace Go.Proofs.YtfnnbkclnflpfaaGreatDoor
open Go.RowKit
attribute [local go_sem ↓] Go.wp_at_zero Go.wp_at_succ

set_option maxRecDepth 20000 in
set_option maxHeartbeats 4000000 in
theorem certifyRanks_no (r c : Int) (ao : Option Addr) (n cap : Nat) (f : Int) (hf : f = 1 ∨ f = 4) (w : World)
    (C1 : ∀ w', Below w.heap.size w w' → Calls Tryz.prog 24 #[.agg #[.int .i64 r, .int .i64 c, .slice ao n cap]] w' fun e w'' => e = .returned (.tuple #[.int .i64 0, .int .i64 f]) ∧ Below w'.heap.size w' w'')
    (C2 : ∀ w', Below w.heap.size w w' → Calls Tryz.prog 11 #[.agg #[.int .i64 r, .int .i64 c, .slice ao n cap]] w' fun e w'' => e = .returned (.int .i64 f) ∧ Below w'.heap.size w' w'')
    (CA : ∀ w', Below w.heap.size w w' → Calls Tryz.prog 14 #[] w' fun e w'' => e = .returned (.bool true) ∧ Below w'.heap.size w' w'') :
    Calls Tryz.prog 6 #[.agg #[.int .i64 r, .int .i64 c, .slice ao n cap]] w fun e w' => e = .returned (.bool true) ∧ Below w.heap.size w w' := by
  have K1 := hide C1; have K2 := hide C2; have KA := hide CA
  have ST := hide (show BoxM _ w.heap.size (.int .i64 r) (.int .i64 c) (.slice ao n cap) ∧ Below w.heap.size w _ from ⟨BoxM.new w (.int .i64 r) (.int .i64 c) (.slice ao n cap), below_alloc9 w (.cells #[.int .i64 r, .int .i64 c, .slice ao n cap] 24)⟩)
  have y0 := (unhide ST).1.c0; have y1 := (unhide ST).1.c1; have y2 := (unhide ST).1.c2
  clear C1 C2 CA
  rcases hf with rfl | rfl
  all_goals
    go_enter Tryz.func6, Tryz.ntmps6
    go_wp2_with fail
    refine (unhide K1 _ (unhide ST).2).mono ?_
    rintro e w1 ⟨rfl, hb1⟩
    replace ST := hide (show BoxM w1 w.heap.size (.int .i64 r) (.int .i64 c) (.slice ao n cap) ∧ Below w.heap.size w w1 from ⟨(unhide ST).1.all hb1, (unhide ST).2.trans (hb1.mono (unhide ST).2.size)⟩)
    clear hb1 K1 y0 y1 y2
    have y0 := (unhide ST).1.c0; have y1 := (unhide ST).1.c1; have y2 := (unhide ST).1.c2
    go_wp2_with fail
    refine (unhide K2 _ (unhide ST).2).mono ?_
    rintro e w2 ⟨rfl, hb1⟩
    replace ST := hide (show BoxM w2 w.heap.size (.int .i64 r) (.int .i64 c) (.slice ao n cap) ∧ Below w.heap.size w w2 from ⟨(unhide ST).1.all hb1, (unhide ST).2.trans (hb1.mono (unhide ST).2.size)⟩)
    clear hb1 K2 y0 y1 y2
    go_wp2_with fail
    refine (unhide KA _ (unhide ST).2).mono ?_
    rintro e w7 ⟨rfl, hb1⟩
    have BB := hide ((unhide ST).2.trans (hb1.mono (unhide ST).2.size))
    clear hb1 KA ST
    go_wp2
    go_ret
    exact ⟨rfl, unhide BB⟩

set_option maxRecDepth 20000 in
set_option maxHeartbeats 4000000 in
theorem certifyRanks_big (r c n cap : Nat) (ao : Option Addr) (m : Int) (w : World) (hn : 12 < n) (hn' : n ≤ 36)
    (hN : ∀ W ts t, (Builtin.min_ ts t #[.int .i64 r, .int .i64 c]).run Tryz.prog W = .ok (.int .i64 m) W)
    (C1 : ∀ w', Below w.heap.size w w' → Calls Tryz.prog 24 #[.agg #[.int .i64 r, .int .i64 c, .slice ao n cap]] w' fun e w'' => ∃ k : Nat, e = .returned (.tuple #[.int .i64 (k : Nat), .int .i64 0]) ∧ (k : Int) ≤ m ∧ Below w'.heap.size w' w'')
    (C2 : ∀ w', Below w.heap.size w w' → Calls Tryz.prog 11 #[.agg #[.int .i64 r, .int .i64 c, .slice ao n cap]] w' fun e w'' => e = .returned (.int .i64 0) ∧ Below w'.heap.size w' w'')
    (C3 : ∀ w', Below w.heap.size w w' → Calls Tryz.prog 25 #[.agg #[.int .i64 r, .int .i64 c, .slice ao n cap], .int .i64 40] w' fun e w'' => e = .returned (.bool false) ∧ Below w'.heap.size w' w'')
    (CA : ∀ w', Below w.heap.size w w' → Calls Tryz.prog 14 #[] w' fun e w'' => e = .returned (.bool true) ∧ Below w'.heap.size w' w'') :
    Calls Tryz.prog 6 #[.agg #[.int .i64 r, .int .i64 c, .slice ao n cap]] w fun e w' => e = .returned (.bool true) ∧ Below w.heap.size w w' := by
  have K1 := hide C1; have K2 := hide C2; have K3 := hide C3; have KA := hide CA
  have ST := hide (show BoxM _ w.heap.size (.int .i64 r) (.int .i64 c) (.slice ao n cap) ∧ Below w.heap.size w _ from ⟨BoxM.new w (.int .i64 r) (.int .i64 c) (.slice ao n cap), below_alloc9 w (.cells #[.int .i64 r, .int .i64 c, .slice ao n cap] 24)⟩)
  have y0 := (unhide ST).1.c0; have y1 := (unhide ST).1.c1; have y2 := (unhide ST).1.c2
  clear C1 C2 C3 CA
  go_enter Tryz.func6, Tryz.ntmps6
  go_wp2_with fail
  refine (unhide K1 _ (unhide ST).2).mono ?_
  rintro e w1 ⟨k, rfl, hk, hb1⟩
  replace ST := hide (show BoxM w1 w.heap.size (.int .i64 r) (.int .i64 c) (.slice ao n cap) ∧ Below w.heap.size w w1 from ⟨(unhide ST).1.all hb1, (unhide ST).2.trans (hb1.mono (unhide ST).2.size)⟩)
  have hk0 : (0 : Int) ≤ (k : Int) := by omega
  clear hb1 K1 y0 y1 y2
  have y0 := (unhide ST).1.c0; have y1 := (unhide ST).1.c1; have y2 := (unhide ST).1.c2
  go_wp2_with fail
  refine (unhide K2 _ (unhide ST).2).mono ?_
  rintro e w2 ⟨rfl, hb1⟩
  replace ST := hide (show BoxM w2 w.heap.size (.int .i64 r) (.int .i64 c) (.slice ao n cap) ∧ Below w.heap.size w w2 from ⟨(unhide ST).1.all hb1, (unhide ST).2.trans (hb1.mono (unhide ST).2.size)⟩)
  clear hb1 K2 y0 y1 y2
  have y0 := (unhide ST).1.c0; have y1 := (unhide ST).1.c1; have y2 := (unhide ST).1.c2
  have hnI : (12 : Int) < (n : Int) := by omega
  go_wp2_with fail
  refine (unhide K3 _ (unhide ST).2).mono ?_
  rintro e w3 ⟨rfl, hb1⟩
  replace ST := hide (show BoxM w3 w.heap.size (.int .i64 r) (.int .i64 c) (.slice ao n cap) ∧ Below w.heap.size w w3 from ⟨(unhide ST).1.all hb1, (unhide ST).2.trans (hb1.mono (unhide ST).2.size)⟩)
  clear hb1 K3 y0 y1 y2
  have y0 := (unhide ST).1.c0; have y1 := (unhide ST).1.c1; have y2 := (unhide ST).1.c2
  go_wp2_with fail
  refine (unhide KA _ (unhide ST).2).mono ?_
  rintro e w7 ⟨rfl, hb1⟩
  have BB := hide ((unhide ST).2.trans (hb1.mono (unhide ST).2.size))
  clear hb1 KA ST y0 y1 y2
  go_wp2
  go_ret
  exact ⟨rfl, unhide BB⟩

set_option maxRecDepth 20000 in
set_option maxHeartbeats 4000000 in
theorem certifyRanks_ok (r c n cap lt : Nat) (ao : Option Addr) (T : List Nat) (Z : Nat → Prop) (tb : Bool) (w : World) (hn : n ≤ 12 ∨ (12 < n ∧ tb = true)) (hn' : n ≤ 36) (hU : ∀ a b, Z a → Z b → a = b)
    (C1 : ∀ w', Below w.heap.size w w' → Calls Tryz.prog 24 #[.agg #[.int .i64 r, .int .i64 c, .slice ao n cap]] w' fun e w'' => ∃ k : Nat, e = .returned (.tuple #[.int .i64 (k : Nat), .int .i64 0]) ∧ Z k ∧ Below w'.heap.size w' w'')
    (C2 : ∀ w', Below w.heap.size w w' → Calls Tryz.prog 11 #[.agg #[.int .i64 r, .int .i64 c, .slice ao n cap]] w' fun e w'' => e = .returned (.int .i64 0) ∧ Below w'.heap.size w' w'')
    (C3 : ∀ w', Below w.heap.size w w' → Calls Tryz.prog 25 #[.agg #[.int .i64 r, .int .i64 c, .slice ao n cap], .int .i64 40] w' fun e w'' => e = .returned (.bool tb) ∧ Below w'.heap.size w' w'')
    (C4 : ∀ w', Below w.heap.size w w' → Calls Tryz.prog 26 #[.agg #[.int .i64 r, .int .i64 c, .slice ao n cap]] w' fun e w'' => ∃ xo xd, e = .returned (.agg #[.int .i64 c, .int .i64 r, .slice xo lt xd]) ∧ BitsAt w'' xo xd (mxL T) ∧ Below w'.heap.size w' w'')
    (C5 : ∀ w' xo xd, Below w.heap.size w w' → BitsAt w' xo xd (mxL T) → Calls Tryz.prog 24 #[.agg #[.int .i64 c, .int .i64 r, .slice xo lt xd]] w' fun e w'' => ∃ k : Nat, e = .returned (.tuple #[.int .i64 (k : Nat), .int .i64 0]) ∧ Z k ∧ Below w'.heap.size w' w'')
    (C6 : ∀ w', Below w.heap.size w w' → Calls Tryz.prog 27 #[.agg #[.int .i64 r, .int .i64 c, .slice ao n cap]] w' fun e w'' => ∃ k : Nat, e = .returned (.int .i64 (k : Nat)) ∧ Z k ∧ Below w'.heap.size w' w'')
    (CA : ∀ w', Below w.heap.size w w' → Calls Tryz.prog 14 #[] w' fun e w'' => e = .returned (.bool true) ∧ Below w'.heap.size w' w'') :
    Calls Tryz.prog 6 #[.agg #[.int .i64 r, .int .i64 c, .slice ao n cap]] w fun e w' => e = .returned (.bool true) ∧ Below w.heap.size w w' := by
  have K1 := hide C1; have K2 := hide C2; have K3 := hide C3; have K4 := hide C4; have K5 := hide C5; have K6 := hide C6; have KA := hide CA; have HU := hide hU; have HN := hide hn
  have ST := hide (show BoxM _ w.heap.size (.int .i64 r) (.int .i64 c) (.slice ao n cap) ∧ Below w.heap.size w _ from ⟨BoxM.new w (.int .i64 r) (.int .i64 c) (.slice ao n cap), below_alloc9 w (.cells #[.int .i64 r, .int .i64 c, .slice ao n cap] 24)⟩)
  have y0 := (unhide ST).1.c0; have y1 := (unhide ST).1.c1; have y2 := (unhide ST).1.c2
  clear C1 C2 C3 C4 C5 C6 CA hU hn
  go_enter Tryz.func6, Tryz.ntmps6
  go_wp2_with fail
  refine (unhide K1 _ (unhide ST).2).mono ?_
  rintro e w1 ⟨k, rfl, hk, hb1⟩
  have ZK := hide hk
  replace ST := hide (show BoxM w1 w.heap.size (.int .i64 r) (.int .i64 c) (.slice ao n cap) ∧ Below w.heap.size w w1 from ⟨(unhide ST).1.all hb1, (unhide ST).2.trans (hb1.mono (unhide ST).2.size)⟩)
  clear hb1 K1 y0 y1 y2 hk
  have y0 := (unhide ST).1.c0; have y1 := (unhide ST).1.c1; have y2 := (unhide ST).1.c2
  go_wp2_with fail
  refine (unhide K2 _ (unhide ST).2).mono ?_
  rintro e w2 ⟨rfl, hb1⟩
  replace ST := hide (show BoxM w2 w.heap.size (.int .i64 r) (.int .i64 c) (.slice ao n cap) ∧ Below w.heap.size w w2 from ⟨(unhide ST).1.all hb1, (unhide ST).2.trans (hb1.mono (unhide ST).2.size)⟩)
  clear hb1 K2 y0 y1 y2
  have y0 := (unhide ST).1.c0; have y1 := (unhide ST).1.c1; have y2 := (unhide ST).1.c2
  rcases unhide HN with h12 | ⟨h12, htb⟩
  · have hnI : ¬ (12 : Int) < (n : Int) := by omega
    clear h12 K3 HN
    go_wp2_with fail
    refine (unhide K4 _ (unhide ST).2).mono ?_
    rintro e w4 ⟨xo, xd, rfl, bx, hb1⟩
    replace ST := hide (show BoxM w4 w.heap.size (.int .i64 r) (.int .i64 c) (.slice ao n cap) ∧ Below w.heap.size w w4 from ⟨(unhide ST).1.all hb1, (unhide ST).2.trans (hb1.mono (unhide ST).2.size)⟩)
    have BX := hide bx
    clear hb1 K4 y0 y1 y2 hnI bx
    go_wp2_with fail
    refine (unhide K5 _ _ _ (unhide ST).2 (unhide BX)).mono ?_
    rintro e w5 ⟨k2, rfl, hk, hb1⟩
    obtain rfl : k = k2 := unhide HU _ _ (unhide ZK) hk
    replace ST := hide (show BoxM w5 w.heap.size (.int .i64 r) (.int .i64 c) (.slice ao n cap) ∧ Below w.heap.size w w5 from ⟨(unhide ST).1.all hb1, (unhide ST).2.trans (hb1.mono (unhide ST).2.size)⟩)
    clear hb1 K5 hk BX
    have y0 := (unhide ST).1.c0; have y1 := (unhide ST).1.c1; have y2 := (unhide ST).1.c2
    go_wp2_with fail
    refine (unhide K6 _ (unhide ST).2).mono ?_
    rintro e w6 ⟨k2, rfl, hk, hb1⟩
    obtain rfl : k = k2 := unhide HU _ _ (unhide ZK) hk
    replace ST := hide (show BoxM w6 w.heap.size (.int .i64 r) (.int .i64 c) (.slice ao n cap) ∧ Below w.heap.size w w6 from ⟨(unhide ST).1.all hb1, (unhide ST).2.trans (hb1.mono (unhide ST).2.size)⟩)
    clear hb1 K6 hk y0 y1 y2 HU ZK
    go_wp2_with fail
    refine (unhide KA _ (unhide ST).2).mono ?_
    rintro e w7 ⟨rfl, hb1⟩
    have BB := hide ((unhide ST).2.trans (hb1.mono (unhide ST).2.size))
    clear hb1 KA ST
    go_wp2
    go_ret
    exact ⟨rfl, unhide BB⟩
  · have hnI : (12 : Int) < (n : Int) := by omega
    subst htb
    clear h12 HN
    go_wp2_with fail
    refine (unhide K3 _ (unhide ST).2).mono ?_
    rintro e w3 ⟨rfl, hb1⟩
    replace ST := hide (show BoxM w3 w.heap.size (.int .i64 r) (.int .i64 c) (.slice ao n cap) ∧ Below w.heap.size w w3 from ⟨(unhide ST).1.all hb1, (unhide ST).2.trans (hb1.mono (unhide ST).2.size)⟩)
    clear hb1 K3 y0 y1 y2 hnI
    have y0 := (unhide ST).1.c0; have y1 := (unhide ST).1.c1; have y2 := (unhide ST).1.c2
    go_wp2_with fail
    refine (unhide K4 _ (unhide ST).2).mono ?_
    rintro e w4 ⟨xo, xd, rfl, bx, hb1⟩
    replace ST := hide (show BoxM w4 w.heap.size (.int .i64 r) (.int .i64 c) (.slice ao n cap) ∧ Below w.heap.size w w4 from ⟨(unhide ST).1.all hb1, (unhide ST).2.trans (hb1.mono (unhide ST).2.size)⟩)
    have BX := hide bx
    clear hb1 K4 y0 y1 y2 bx
    go_wp2_with fail
    refine (unhide K5 _ _ _ (unhide ST).2 (unhide BX)).mono ?_
    rintro e w5 ⟨k2, rfl, hk, hb1⟩
    obtain rfl : k = k2 := unhide HU _ _ (unhide ZK) hk
    replace ST := hide (show BoxM w5 w.heap.size (.int .i64 r) (.int .i64 c) (.slice ao n cap) ∧ Below w.heap.size w w5 from ⟨(unhide ST).1.all hb1, (unhide ST).2.trans (hb1.mono (unhide ST).2.size)⟩)
    clear hb1 K5 hk BX
    have y0 := (unhide ST).1.c0; have y1 := (unhide ST).1.c1; have y2 := (unhide ST).1.c2
    go_wp2_with fail
    refine (unhide K6 _ (unhide ST).2).mono ?_
    rintro e w6 ⟨k2, rfl, hk, hb1⟩
    obtain rfl : k = k2 := unhide HU _ _ (unhide ZK) hk
    replace ST := hide (show BoxM w6 w.heap.size (.int .i64 r) (.int .i64 c) (.slice ao n cap) ∧ Below w.heap.size w w6 from ⟨(unhide ST).1.all hb1, (unhide ST).2.trans (hb1.mono (unhide ST).2.size)⟩)
    clear hb1 K6 hk y0 y1 y2 HU ZK
    go_wp2_with fail
    refine (unhide KA _ (unhide ST).2).mono ?_
    rintro e w7 ⟨rfl, hb1⟩
    have BB := hide ((unhide ST).2.trans (hb1.mono (unhide ST).2.size))
    clear hb1 KA ST
    go_wp2
    go_ret
    exact ⟨rfl, unhide BB⟩

theorem el_turn (r c : Nat) (S : List Nat) {i k : Nat} (hi : i < c) (hk : k < r) : elM r (mkM c r (fun k i => elM c S i k)) i k = elM c S k i := el_mk c r _ hi hk

theorem certifyRanks_walk (r c : Int) (ao : Option Addr) (cap : Nat) (I : List Int) (w : World) (hI : BitsAt w ao cap I) (hl : I.length ≤ 17592186043904) (_hr : -9223372036854775808 ≤ r ∧ r ≤ 9223372036854775807) (_hc : -9223372036854775808 ≤ c ∧ c ≤ 9223372036854775807) (hT : Tab w) :
    Calls Tryz.prog 6 #[.agg #[.int .i64 r, .int .i64 c, .slice ao I.length cap]] w fun e w' => e = .returned (.bool true) ∧ Below w.heap.size w w' := by
  have CA := fun w' (hb : Below w.heap.size w w') => awake11_any w' (hT.all hb)
  have C3 := fun w' (hb : Below w.heap.size w w') => r11check_any r c ao cap I w' (hI.below hb) (by omega)
  have C4 := fun w' (hb : Below w.heap.size w w') => ccheck_any r c ao cap I w' (hI.below hb) (by omega)
  have C5 := fun w' (hb : Below w.heap.size w w') => r11tame_any r c ao cap I 40 w' (hI.below hb) (by omega) (by omega)
  by_cases h0 : ckE r c I = 0
  · rw [h0] at C3
    obtain ⟨r, c, rfl, rfl, hM, hS, hf⟩ := Mx.asked hI h0
    have hlen : (natL I).length = I.length := natL_len I
    have h36 := hM.small
    have CR := fun w' (hb : Below w.heap.size w w') => cRank_any r c cap ao (natL I) w' (hM.below hb) hf (hT.all hb)
    rw [hlen] at CR
    by_cases hb : 12 < I.length ∧ (okB (r : Int) (c : Int) I.length && tmK 40 I I.length) = false
    · rw [hb.2] at C5
      refine certifyRanks_big r c I.length cap ao (min (r : Int) (c : Int)) w hb.1 (by omega) (fun W ts t => min2_run _ W ts t _ _) (fun w' hb => (CR w' hb).mono ?_) C3 C5 CA
      rintro e w'' ⟨k, rfl, hk, hb2⟩
      have := rank_le hk
      exact ⟨k, rfl, by omega, hb2⟩
    · refine certifyRanks_ok r c I.length cap (mkM c r (fun k i => elM c (natL I) i k)).length ao (mkM c r (fun k i => elM c (natL I) i k)) (fun k => IsRank k (fun i k => fZ (elM c (natL I) i k)) r c) (okB (r : Int) (c : Int) I.length && tmK 40 I I.length) w ?_ (by omega) (fun a b ha hb => ha.unique hb) CR C3 C5 (fun w' hb => ?_) (fun w' xo xd hb hx => ?_) (fun w' hb => ?_) CA
      · by_cases h12 : I.length ≤ 12
        · exact .inl h12
        · refine .inr ⟨by omega, ?_⟩
          cases hq : (okB (r : Int) (c : Int) I.length && tmK 40 I I.length)
          · exact absurd ⟨by omega, hq⟩ hb
          · rfl
      · rw [← hlen]
        refine (rturn_any r c cap ao (natL I) w' (hM.below hb)).mono ?_
        rintro e w'' ⟨v, rfl, ⟨xo, xd, rfl, _, hx⟩, hb2⟩
        exact ⟨xo, xd, rfl, hx, hb2⟩
      · have hX : Mx w' xo xd c r (mkM c r (fun k i => elM c (natL I) i k)) := ⟨hx, mkM_len _ _ _, hM.2.2.2, hM.2.2.1⟩
        refine (cRank_any c r xd xo _ w' hX (fin_mkM (fun i k => el_fin c (natL I) _ _ hf)) (hT.all hb)).mono ?_
        · rintro e w'' ⟨k, rfl, hk, hb2⟩
          refine ⟨k, rfl, rank_congr (fun i k hi hk => ?_) (rank_turn hk), hb2⟩
          show fZ (elM r _ k i) = _
          rw [el_turn r c (natL I) hk hi]
      · rw [← hlen]; exact rRank11_any r c cap ao (natL I) w' (hM.below hb) hf
  · have hf : ckE r c I = 1 ∨ ckE r c I = 4 := by rcases ckE_three r c I with h | h | h <;> omega
    exact certifyRanks_no r c ao I.length cap (ckE r c I) hf w (fun w' hb => cRank_err r c ao I.length cap _ w' hf (fun w'' hb2 => C4 w'' (hb.trans (hb2.mono hb.size)))) C3 CA

end Go.Proofs.YtfnnbkclnflpfaaGreatDoor

/- A struct of a sign and limbs that came in, opened. -/
namespace Go.Proofs.YtfnnbkclnflpfaaGreatDoor
open Go.ChangeShapes Go.WideShapes Go.ChangeAt Go.RowKit Go.Joins

theorem Tryz.own : ownKnob Tryz.prog.godebug = none := by kernel_rfl
theorem Tryz.laidOut : laidOutB Tryz.prog = true := by kernel_rfl
end Go.Proofs.YtfnnbkclnflpfaaGreatDoor

/- The bounds of an int or int64 that came in. -/
namespace Go.Proofs.YtfnnbkclnflpfaaGreatDoor

theorem bounds_of_i64 {x : Int} (h : (Lit.int .i64 x).wf = true) : -9223372036854775808 ≤ x ∧ x ≤ 9223372036854775807 := by
  simp [Lit.wf, IntKind.min, IntKind.max, IntKind.signed, IntKind.bits] at h
  omega

end Go.Proofs.YtfnnbkclnflpfaaGreatDoor

/- A dyadic number that came in, opened; the library's table, as the row lays it. -/
namespace Go.Proofs.YtfnnbkclnflpfaaGreatDoor
open Go.ChangeShapes Go.WideShapes Go.ChangeAt Go.RowKit Go.Joins
theorem Tryz.tabName : Tryz.prog.globalNamed "math/bits.deBruijn32tab" = some 1 := by kernel_rfl
theorem Tryz.tabType : (Tryz.prog.globals[1]?).map (·.type) = some 181 := by kernel_rfl
theorem Tryz.tabCells : Tryz.prog.cellsOf 181 = 32 := by kernel_rfl
theorem Tryz.byteCells : Tryz.prog.cellsOf 5 = 1 := by kernel_rfl

theorem tab_getD : ∀ j, j < Lib.deBruijn32tab.length → (List.map Int.ofNat Lib.deBruijn32tab).getD j 0 = ((Lib.deBruijn32tab.getD j 0 : Nat) : Int) := by decide

/-- What the rows' list gives: the table's cells. -/
theorem tab_of_laid {W : World} (h : laidMetH Tryz.prog [("math/bits.deBruijn32tab", Rows.laid_math_bits_deBruijn32tab)] W) : Tab W := by
  have ht := Lib.tabIs_of_head (zs := Lib.deBruijn32tab.map Int.ofNat) (rest := []) Tryz.tabName Tryz.tabType Tryz.underlying181 Tryz.underlying5 Tryz.byteCells Tryz.tabCells h
  intro j hj
  have := ht.cell Tryz.tabName j (by simpa using hj)
  rw [this]
  congr 2
  exact tab_getD j hj

end Go.Proofs.YtfnnbkclnflpfaaGreatDoor

