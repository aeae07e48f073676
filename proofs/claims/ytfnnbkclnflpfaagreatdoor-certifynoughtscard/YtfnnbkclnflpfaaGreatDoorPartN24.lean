/- Part 24 of the texts. -/
import Derived.Test.YtfnnbkclnflpfaaGreatDoorPartN23
import Derived.Deep.RegionWith
import Derived.Test.YtfnnbkclnflpfaaGreatDoorPartN05
import Derived.Test.YtfnnbkclnflpfaaGreatDoorPartN02
import Derived.Maps.AppendAt
import Derived.Test.YtfnnbkclnflpfaaGreatDoorPartN08
import Derived.Lib.BitFns
/- The reference of layer 10: Turn, Part (mkne.py). -/
namespace Go.Proofs.YtfnnbkclnflpfaaGreatDoor
open Go.RowKit
attribute [local go_sem ↓] Go.wp_at_zero Go.wp_at_succ

set_option maxRecDepth 20000 in
set_option maxHeartbeats 8000000 in
theorem rturn_any (r c cap : Nat) (ao : Option Addr) (S : List Nat) (w : World) (h : Mx w ao cap r c S) :
    Calls Tryz.prog 26 #[.agg #[.int .i64 r, .int .i64 c, .slice ao S.length cap]] w fun e w' => ∃ v, e = .returned v ∧ NewM 0 w' c r (mkM c r (fun k i => elM c S i k)) v ∧ Below w.heap.size w w' := by
  have HH := hide h
  have hr6 := h.2.2.1; have hc6 := h.2.2.2
  have K1 := hide (fun w' => rzeros_any c r w' (by omega) (by omega))
  have b0 := below_alloc9 w (.cells #[.int .i64 r, .int .i64 c, .slice ao S.length cap] 24)
  have b1 := below_alloc9 (w.alloc (.cells #[.int .i64 r, .int .i64 c, .slice ao S.length cap] 24)) (.cells #[.int .i64 0, .int .i64 0, .slice none 0 0] 24)
  have s0 := size_alloc9 w (.cells #[.int .i64 r, .int .i64 c, .slice ao S.length cap] 24)
  have s1 := size_alloc9 (w.alloc (.cells #[.int .i64 r, .int .i64 c, .slice ao S.length cap] 24)) (.cells #[.int .i64 0, .int .i64 0, .slice none 0 0] 24)
  have X0 := BoxM.new w (.int .i64 r) (.int .i64 c) (.slice ao S.length cap)
  have X1 := BoxM.new (w.alloc (.cells #[.int .i64 r, .int .i64 c, .slice ao S.length cap] 24)) (.int .i64 0) (.int .i64 0) (.slice none 0 0)
  have HX0 := hide (X0.all b1)
  rw [s0] at X1
  have HX1 := hide X1
  have HB0 := hide (b0.trans (b1.mono b0.size))
  have HS0 := hide (s1.trans (by rw [s0]))
  have HL := hide h.2.1
  obtain ⟨l, hl⟩ : ∃ l, S.length = l := ⟨_, rfl⟩
  rw [hl] at HX0 HX1 HB0 HS0
  rw [hl]
  have HLL := hide hl
  obtain ⟨f, hf⟩ : ∃ f : Nat → Nat → Nat, f = (fun k i => elM c S i k) := ⟨_, rfl⟩
  rw [← hf]
  have HF := hide hf
  clear b0 b1 s0 s1 X0 X1 h hl hf
  go_enter Tryz.func26, Tryz.ntmps26
  go_wp2_with fail
  refine (unhide K1 _).mono ?_
  rintro e w1 ⟨v, rfl, ⟨mo, mc, rfl, nw, qs⟩, hb1⟩
  have ba := below_alloc9 w1 (.cells #[.int .i64 c, .int .i64 r, .slice mo (List.replicate (c * r) 0).length mc] 24)
  have BB := (unhide HB0).trans (hb1.mono (unhide HB0).size)
  have L0 := hide (show LpSt w (w1.alloc (.cells #[.int .i64 c, .int .i64 r, .slice mo (mkM c r (fiC f 0 0)).length mc] 24)) w1.heap.size (w.heap.size + 1) c r mo mc (mkM c r (fiC f 0 0)) from by
    rw [fiC_0]
    exact ⟨BB.trans (ba.mono BB.size), BoxM.new w1 _ _ _, ((unhide HX1).all hb1).all ba, qs.below ba, by have := hb1.size; rw [unhide HS0] at this; omega, BB.size⟩)
  have A0 := hide (show BoxM (w1.alloc (.cells #[.int .i64 c, .int .i64 r, .slice mo (mkM c r (fiC f 0 0)).length mc] 24)) w.heap.size (.int .i64 r) (.int .i64 c) (.slice ao l cap) from by
    rw [fiC_0]
    exact ((unhide HX0).all hb1).all ba)
  have NE := hide (show w.heap.size ≠ w1.heap.size from by have := hb1.size; rw [unhide HS0] at this; omega)
  rw [← fiC_0 c r f]
  clear K1 hb1 ba BB nw qs HB0 HX0 HX1 HS0
  have t0 := (unhide A0).c0; have t1 := (unhide A0).c1; have t2 := (unhide A0).c2
  go_wp2_with fail
  generalize w1.heap.size = g at *
  go_loopw [4] (fun i wr => ∃ (j : Nat) (no : Option Addr) (nc : Nat), j ≤ r ∧ i = .int .i64 j ∧ Hid (LpSt w wr g (w.heap.size + 1) c r no nc (mkM c r (fiC f j 0))) ∧ Hid (BoxM wr w.heap.size (.int .i64 r) (.int .i64 c) (.slice ao l cap))) (fun i _ => r - (intOf i).toNat)
  case atStart => exact ⟨0, mo, mc, Nat.zero_le _, rfl, L0, A0⟩
  case round =>
    clear L0 A0 t0 t1 t2
    obtain ⟨j, no, nc, hj, rfl, hL, hA⟩ := hrel
    by_cases hlt : j < r
    · have hjI : (j : Int) < (r : Int) := by omega
      have t0 := (unhide hA).c0; have t1 := (unhide hA).c1; have t2 := (unhide hA).c2
      go_wp2_with fail
      go_loopw [5] (fun i wr => ∃ (k : Nat) (no : Option Addr) (nc : Nat), k ≤ c ∧ i = .int .i64 k ∧ Hid (LpSt w wr g (w.heap.size + 1) c r no nc (mkM c r (fiC f j k))) ∧ Hid (BoxM wr w.heap.size (.int .i64 r) (.int .i64 c) (.slice ao l cap))) (fun i _ => c - (intOf i).toNat)
      case atStart => exact ⟨0, no, nc, Nat.zero_le _, rfl, hL, hA⟩
      case round =>
        clear hL hA t0 t1 t2 no nc
        obtain ⟨k, no, nc, hk, rfl, hL, hA⟩ := hrel
        have t0 := (unhide hA).c0; have t1 := (unhide hA).c1; have t2 := (unhide hA).c2
        by_cases hkc : k < c
        · have hkI : (k : Int) < (c : Int) := by omega
          have y0 := (unhide hL).box.c0; have y1 := (unhide hL).box.c1; have y2 := (unhide hL).box.c2
          have C1 := hide (fun w' (m : Mx w' ao cap r c S) => rat_any r c cap j k ao S w' m (by omega) (by omega))
          have C2 := hide (fun w' no nc (m : Mx w' no nc c r (mkM c r (fiC f j k))) => rwith_any c r nc k j (f k j) no (mkM c r (fiC f j k)) w' m (by omega) (by omega) (by rw [unhide HF]; exact (unhide HH).el_lt _ _))
          rw [fiC_step c r f hlt hkc] at C2
          rw [unhide HLL, show elM c S j k = f k j from by rw [unhide HF]] at C1
          have HM := hide ((unhide HH).below (unhide hL).bel)
          have HP := hide (show (mkM c r (fiC f j k)).length = c * r from mkM_len _ _ _)
          generalize f k j = x at *
          generalize mkM c r (fiC f j k) = T at *
          generalize hT2 : mkM c r (fiC f j (k + 1)) = T2 at *
          have HT2 := hide hT2
          clear hT2
          go_wp2_with fail
          go_region_with (first | (go_at_call 54; refine (unhide C1 _ (by exact unhide HM)).mono ?_; rintro e w4 ⟨rfl, hb3⟩; have hb4 : Below wr.heap.size wr w4 := ((Below.refl wr.heap.size wr).drew).trans hb3; clear hb3 t0 t1 t2 y0 y1 y2; have L4 := (unhide hL).all hb4; have A4 := (unhide hA).all hb4; have t0 := A4.c0; have t1 := A4.c1; have t2 := A4.c2; have y0 := L4.box.c0; have y1 := L4.box.c1; have y2 := L4.box.c2; have HL4 := hide L4; have HA4 := hide A4; clear hb4 L4 A4) | (go_at_call 68; refine (unhide C2 _ _ _ ⟨(unhide HL4).bits, unhide HP, by omega, by omega⟩).mono ?_; rintro e w5 ⟨v, rfl, ⟨no5, nc5, rfl, _, q5⟩, hb5⟩; clear t0 t1 t2 y0 y1 y2; have L5 := (unhide HL4).all hb5; have A5 := (unhide HA4).all hb5; have y0 := L5.box.c0; have y1 := L5.box.c1; have y2 := L5.box.c2; have f0 := L5.box.free 0; have f1 := L5.box.free 1; have f2 := L5.box.free 2; have L6 := hide (L5.put q5); have A6 := hide (((A5.other (p := ⟨g, 0, none⟩) (unhide NE) (.int .i64 c)).other (p := ⟨g, 1, none⟩) (unhide NE) (.int .i64 r)).other (p := ⟨g, 2, none⟩) (unhide NE) (.slice no5 T2.length nc5)); clear hb5 L5 A5 q5 HL4 HA4) | fail "NO ARM")
          all_goals
            clear hL hA HM C1 C2 y0 y1 y2 f0 f1 f2
            go_wp2_with fail
            go_round
            case rel => exact ⟨k + 1, no5, nc5, by omega, by go_num, by rw [unhide HT2]; exact L6, A6⟩
            case measure => simp [intOf]; omega
        · have hkk : c = k := by omega
          subst hkk
          have hL' := hide (show LpSt w _ g (w.heap.size + 1) c r no nc (mkM c r (fiC f (j + 1) 0)) from by rw [← fiC_col c r f j]; exact unhide hL)
          clear hL
          go_wp2_with fail
          go_round
          case rel => exact ⟨j + 1, no, nc, by omega, by go_num, hL', hA⟩
          case measure => simp [intOf]; omega
    · have hjj : r = j := by omega
      subst hjj
      rw [fiC_all] at hL
      have t0 := (unhide hA).c0; have t1 := (unhide hA).c1; have t2 := (unhide hA).c2
      have y0 := (unhide hL).box.c0; have y1 := (unhide hL).box.c1; have y2 := (unhide hL).box.c2
      have r0 := (unhide hL).res.c0; have r1 := (unhide hL).res.c1; have r2 := (unhide hL).res.c2
      have f0 := (unhide hL).res.free 0; have f1 := (unhide hL).res.free 1; have f2 := (unhide hL).res.free 2
      have XP := (unhide hL).res.put (.int .i64 c) (.int .i64 r) (.slice no (mkM c r f).length nc)
      have z0 := XP.c0; have z1 := XP.c1; have z2 := XP.c2
      have Q := hide (BitsAt.putM (unhide hL).bits (unhide hL).res (.int .i64 c) (.int .i64 r) (.slice no (mkM c r f).length nc))
      have BP := hide (below_putM (unhide hL).bel (b := w.heap.size + 1) (by omega) (.int .i64 c) (.int .i64 r) (.slice no (mkM c r f).length nc))
      clear XP hL
      go_wp2
      exact bodyPost_ret (v := .agg #[.int .i64 c, .int .i64 r, .slice no (mkM c r f).length nc]) (by simp [results, Tryz.results26, go_sem, z0, z1, z2]) rfl ⟨_, rfl, NewM.any (unhide Q), unhide BP⟩

end Go.Proofs.YtfnnbkclnflpfaaGreatDoor

/- Rows of numbers, as they lie in memory. -/
namespace Go.Proofs.YtfnnbkclnflpfaaGreatDoor
open Go.RowKit

/-- A number in memory: its sign, where its limbs lie, the limbs. -/
structure Nm where
  neg : Bool
  ao : Option Addr
  cap : Nat
  L : List Nat

/-- A row in memory: where its numbers lie, the numbers. -/
structure Rw where
  ao : Option Addr
  cap : Nat
  R : List Nm

def Nm.nil : Nm := ⟨false, none, 0, []⟩
def Rw.nil : Rw := ⟨none, 0, []⟩
def nmAt (R : List Nm) (k : Nat) : Nm := R[k]?.getD Nm.nil
def rwAt (M : List Rw) (i : Nat) : Rw := M[i]?.getD Rw.nil
def Nm.v (x : Nm) : Value := .agg #[.bool x.neg, .slice x.ao x.L.length x.cap]
def Rw.v (r : Rw) : Value := .slice r.ao r.R.length r.cap

/-- The numbers R lie at ao. -/
def NumsAt (w : World) (ao : Option Addr) (cap : Nat) (R : List Nm) : Prop :=
  R.length ≤ cap ∧ (∀ x ∈ R, LimbsAt w x.ao x.cap x.L) ∧ (R = [] ∨ ∃ b off, ao = some ⟨b, off, none⟩ ∧ b < w.heap.size ∧ ∀ k, k < R.length → w.cell? ⟨b, off + k * 2, none⟩ = some (.bool (nmAt R k).neg) ∧ w.cell? ⟨b, off + k * 2 + 1, none⟩ = some (.slice (nmAt R k).ao (nmAt R k).L.length (nmAt R k).cap))

/-- The rows M lie at ao. -/
def MatAt (w : World) (ao : Option Addr) (cap : Nat) (M : List Rw) : Prop :=
  M.length ≤ cap ∧ (∀ r ∈ M, NumsAt w r.ao r.cap r.R) ∧ (M = [] ∨ ∃ b off, ao = some ⟨b, off, none⟩ ∧ b < w.heap.size ∧ ∀ i, i < M.length → w.cell? ⟨b, off + i, none⟩ = some (rwAt M i).v)

theorem nmAt_mem {R : List Nm} {k : Nat} (h : k < R.length) : nmAt R k ∈ R := by
  unfold nmAt; rw [List.getElem?_eq_getElem h]; exact List.getElem_mem h
theorem rwAt_mem {M : List Rw} {i : Nat} (h : i < M.length) : rwAt M i ∈ M := by
  unfold rwAt; rw [List.getElem?_eq_getElem h]; exact List.getElem_mem h

theorem NumsAt.below {w w' : World} {ao : Option Addr} {cap : Nat} {R : List Nm} (h : NumsAt w ao cap R) (hb : Below w.heap.size w w') : NumsAt w' ao cap R := by
  refine ⟨h.1, fun x hx => (h.2.1 x hx).below hb, ?_⟩
  rcases h.2.2 with e | ⟨b, off, h1, h2, h3⟩
  · exact .inl e
  · refine .inr ⟨b, off, h1, Nat.lt_of_lt_of_le h2 hb.size, fun k hk => ?_⟩
    rw [hb.cell (p := ⟨b, off + k * 2, none⟩) h2, hb.cell (p := ⟨b, off + k * 2 + 1, none⟩) h2]
    exact h3 k hk

theorem MatAt.below {w w' : World} {ao : Option Addr} {cap : Nat} {M : List Rw} (h : MatAt w ao cap M) (hb : Below w.heap.size w w') : MatAt w' ao cap M := by
  refine ⟨h.1, fun r hr => (h.2.1 r hr).below hb, ?_⟩
  rcases h.2.2 with e | ⟨b, off, h1, h2, h3⟩
  · exact .inl e
  · refine .inr ⟨b, off, h1, Nat.lt_of_lt_of_le h2 hb.size, fun i hi => ?_⟩
    rw [hb.cell (p := ⟨b, off + i, none⟩) h2]
    exact h3 i hi

theorem NumsAt.limbs {w : World} {ao : Option Addr} {cap : Nat} {R : List Nm} (h : NumsAt w ao cap R) {k : Nat} (hk : k < R.length) : LimbsAt w (nmAt R k).ao (nmAt R k).cap (nmAt R k).L := h.2.1 _ (nmAt_mem hk)
theorem MatAt.nums {w : World} {ao : Option Addr} {cap : Nat} {M : List Rw} (h : MatAt w ao cap M) {i : Nat} (hi : i < M.length) : NumsAt w (rwAt M i).ao (rwAt M i).cap (rwAt M i).R := h.2.1 _ (rwAt_mem hi)

theorem NumsAt.ne {w : World} {ao : Option Addr} {cap : Nat} {R : List Nm} (h : NumsAt w ao cap R) (h0 : 0 < R.length) : ∃ b off, ao = some ⟨b, off, none⟩ ∧ b < w.heap.size ∧ ∀ k, k < R.length → w.cell? ⟨b, off + k * 2, none⟩ = some (.bool (nmAt R k).neg) ∧ w.cell? ⟨b, off + k * 2 + 1, none⟩ = some (.slice (nmAt R k).ao (nmAt R k).L.length (nmAt R k).cap) := by
  rcases h.2.2 with e | e
  · rw [e] at h0; simp at h0
  · exact e
theorem MatAt.ne {w : World} {ao : Option Addr} {cap : Nat} {M : List Rw} (h : MatAt w ao cap M) (h0 : 0 < M.length) : ∃ b off, ao = some ⟨b, off, none⟩ ∧ b < w.heap.size ∧ ∀ i, i < M.length → w.cell? ⟨b, off + i, none⟩ = some (.slice (rwAt M i).ao (rwAt M i).R.length (rwAt M i).cap) := by
  rcases h.2.2 with e | e
  · rw [e] at h0; simp at h0
  · exact e

/-- What the rows say. -/
def entry (M : List Rw) (i k : Nat) : Nm := nmAt (rwAt M i).R k
def width (M : List Rw) : Nat := (rwAt M 0).R.length

end Go.Proofs.YtfnnbkclnflpfaaGreatDoor

/- Rows of numbers, and rows of rows, that a call itself makes by appending. -/
namespace Go.Proofs.YtfnnbkclnflpfaaGreatDoor
open Go.RowKit

/-- The number's limbs don't lie in block g. -/
def Av (g : Option Nat) (x : Nm) : Prop := x.L = [] ∨ ∃ b off, x.ao = some ⟨b, off, none⟩ ∧ some b ≠ g
/-- Nothing of the row lies in block g. -/
def AvR (g : Option Nat) (r : Rw) : Prop := (r.R = [] ∨ ∃ b off, r.ao = some ⟨b, off, none⟩ ∧ some b ≠ g) ∧ ∀ x ∈ r.R, Av g x
def numCells (R : List Nm) : List Value := R.flatMap (fun x => [.bool x.neg, .slice x.ao x.L.length x.cap])

theorem Av.none (w : World) (x : Nm) (h : LimbsAt w x.ao x.cap x.L) : Av none x := by
  rcases h.2.2 with e | ⟨b, off, e, _⟩
  · exact .inl e
  · exact .inr ⟨b, off, e, by simp⟩
theorem Av.new {w : World} {x : Nm} (h : LimbsAt w x.ao x.cap x.L) {g : Nat} (hg : w.heap.size ≤ g) : Av (some g) x := by
  rcases h.2.2 with e | ⟨b, off, e, hb, _⟩
  · exact .inl e
  · exact .inr ⟨b, off, e, by intro e; cases e; omega⟩
theorem Av.old {B : Nat} {x : Nm} (h : NewAt B x.ao x.L) {g : Option Nat} (hg : ∀ m, g = some m → m < B) : Av g x := by
  rcases h with e | ⟨b, off, e, hb⟩
  · exact .inl e
  · exact .inr ⟨b, off, e, fun e => by have := hg b e.symm; omega⟩
theorem AvR.new {w : World} {r : Rw} (h : NumsAt w r.ao r.cap r.R) {g : Nat} (hg : w.heap.size ≤ g) : AvR (some g) r := by
  refine ⟨?_, fun x hx => Av.new (h.2.1 x hx) hg⟩
  rcases h.2.2 with e | ⟨b, off, e, hb, _⟩
  · exact .inl e
  · exact .inr ⟨b, off, e, by intro e; cases e; omega⟩
theorem AvR.none {w : World} {r : Rw} (h : NumsAt w r.ao r.cap r.R) : AvR none r := by
  refine ⟨?_, fun x hx => Av.none w x (h.2.1 x hx)⟩
  rcases h.2.2 with e | ⟨b, off, e, hb, _⟩
  · exact .inl e
  · exact .inr ⟨b, off, e, by simp⟩

theorem LimbsAt.grownAv {w w' : World} {x : Nm} {g : Option Nat} (h : LimbsAt w x.ao x.cap x.L) (ha : Av g x) (hg : w.grownBy w' g) : LimbsAt w' x.ao x.cap x.L := by
  refine ⟨h.1, h.2.1, ?_⟩
  rcases h.2.2 with e | ⟨b, off, e, hb, hc⟩
  · exact .inl e
  · rcases ha with e' | ⟨b', off', e', hne⟩
    · exact .inl e'
    · rw [e] at e'
      simp only [Option.some.injEq, Addr.mk.injEq] at e'
      obtain ⟨rfl, rfl, _⟩ := e'
      refine .inr ⟨b, off, e, Nat.lt_of_lt_of_le hb hg.size, fun i hi => ?_⟩
      rw [World.cell?_of_block (a := ⟨b, off + i, none⟩) (hg.block b hb hne)]
      exact hc i hi
theorem NumsAt.grownAv {w w' : World} {r : Rw} {g : Option Nat} (h : NumsAt w r.ao r.cap r.R) (ha : AvR g r) (hg : w.grownBy w' g) : NumsAt w' r.ao r.cap r.R := by
  refine ⟨h.1, fun x hx => (h.2.1 x hx).grownAv (ha.2 x hx) hg, ?_⟩
  rcases h.2.2 with e | ⟨b, off, e, hb, hc⟩
  · exact .inl e
  · rcases ha.1 with e' | ⟨b', off', e', hne⟩
    · exact .inl e'
    · rw [e] at e'
      simp only [Option.some.injEq, Addr.mk.injEq] at e'
      obtain ⟨rfl, rfl, _⟩ := e'
      refine .inr ⟨b, off, e, Nat.lt_of_lt_of_le hb hg.size, fun k hk => ?_⟩
      rw [World.cell?_of_block (a := ⟨b, off + k * 2, none⟩) (hg.block b hb hne), World.cell?_of_block (a := ⟨b, off + k * 2 + 1, none⟩) (hg.block b hb hne)]
      exact hc k hk

/-- v is a row of the call's own, of the numbers R. -/
def OwnNums (base : Nat) (w : World) (v : Value) (R : List Nm) : Prop := w.ownsRow base 27 2 v R.length (numCells R) ∧ ∀ x ∈ R, LimbsAt w x.ao x.cap x.L ∧ Av v.ownBlock x
/-- v is a row of the call's own, of the rows M. -/
def OwnRows (base : Nat) (w : World) (v : Value) (M : List Rw) : Prop := w.ownsRow base 87 1 v M.length (M.map Rw.v) ∧ ∀ r ∈ M, NumsAt w r.ao r.cap r.R ∧ AvR v.ownBlock r

theorem length_numCells (R : List Nm) : (numCells R).length = R.length * 2 := by
  induction R with
  | nil => rfl
  | cons x R ih => simp only [numCells, List.flatMap_cons, List.length_append, List.length_cons, List.length_nil] at ih ⊢; rw [show (List.flatMap (fun x => [Value.bool x.neg, Value.slice x.ao x.L.length x.cap]) R).length = R.length * 2 from ih]; omega
theorem numCells_get : ∀ (R : List Nm) (k : Nat), k < R.length → (numCells R)[k * 2]? = some (.bool (nmAt R k).neg) ∧ (numCells R)[k * 2 + 1]? = some (.slice (nmAt R k).ao (nmAt R k).L.length (nmAt R k).cap)
  | x :: R, 0, _ => by simp [numCells, nmAt]
  | x :: R, k + 1, h => by
    have := numCells_get R k (by simpa using h)
    have e : numCells (x :: R) = .bool x.neg :: .slice x.ao x.L.length x.cap :: numCells R := rfl
    rw [e, show (k + 1) * 2 = k * 2 + 1 + 1 by omega]
    simpa [nmAt] using this

theorem OwnNums.start (w : World) (base : Nat) (hb : base ≤ w.heap.size) : OwnNums base (w.alloc (.cells #[] 27)) (.slice (some ⟨w.heap.size, 0, none⟩) 0 0) [] :=
  ⟨World.ownsRow_made w #[] 0 hb (by simp [maxLen]) (by simp), by simp⟩
theorem OwnRows.start (w : World) (base : Nat) (hb : base ≤ w.heap.size) : OwnRows base (w.alloc (.cells #[] 87)) (.slice (some ⟨w.heap.size, 0, none⟩) 0 0) [] :=
  ⟨World.ownsRow_made w #[] 0 hb (by simp [maxLen]) (by simp), by simp⟩

theorem OwnNums.lt {base : Nat} {w : World} {v : Value} {R : List Nm} (h : OwnNums base w v R) : ∀ k, v.ownBlock = some k → base ≤ k ∧ k < w.heap.size := h.1.lt
theorem OwnRows.lt {base : Nat} {w : World} {v : Value} {M : List Rw} (h : OwnRows base w v M) : ∀ k, v.ownBlock = some k → base ≤ k ∧ k < w.heap.size := h.1.lt

/-- What grows leaves a row alone that lies elsewhere. -/
theorem ownsRow_grown {w w' : World} {base e size n : Nat} {v : Value} {xs : List Value} {g : Option Nat} (h : w.ownsRow base e size v n xs) (hg : w.grownBy w' g) (hne : ∀ k, v.ownBlock = some k → some k ≠ g) : w'.ownsRow base e size v n xs := by
  refine ⟨h.1, ?_⟩
  rcases h.2 with h | ⟨k, cap, cur, hv, hb, hh, hr⟩
  · exact .inl h
  · have hk : k < w.heap.size := (Array.getElem?_eq_some_iff.1 hh).1
    exact .inr ⟨k, cap, cur, hv, hb, (hg.block k hk (hne k (by rw [hv]; rfl))).trans hh, hr⟩
theorem OwnNums.below {base : Nat} {w w' : World} {v : Value} {R : List Nm} (h : OwnNums base w v R) (hb : Below w.heap.size w w') : OwnNums base w' v R :=
  ⟨ownsRow_grown h.1 ⟨hb.os, hb.tape, hb.output, hb.size, fun k hk _ => hb.block k hk⟩ (fun k _ => by simp : ∀ k, v.ownBlock = some k → some k ≠ none), fun x hx => ⟨((h.2 x hx).1).below hb, (h.2 x hx).2⟩⟩
theorem OwnRows.below {base : Nat} {w w' : World} {v : Value} {M : List Rw} (h : OwnRows base w v M) (hb : Below w.heap.size w w') : OwnRows base w' v M :=
  ⟨ownsRow_grown h.1 ⟨hb.os, hb.tape, hb.output, hb.size, fun k hk _ => hb.block k hk⟩ (fun k _ => by simp : ∀ k, v.ownBlock = some k → some k ≠ none), fun x hx => ⟨((h.2 x hx).1).below hb, (h.2 x hx).2⟩⟩
/-- .. and a row of rows, where another row grows that it does not use. -/
theorem OwnRows.grown {base : Nat} {w w' : World} {v : Value} {M : List Rw} {g : Option Nat} (h : OwnRows base w v M) (hg : w.grownBy w' g) (hne : ∀ k, v.ownBlock = some k → some k ≠ g) (hav : ∀ r ∈ M, AvR g r) : OwnRows base w' v M :=
  ⟨ownsRow_grown h.1 hg hne, fun r hr => ⟨((h.2 r hr).1).grownAv (hav r hr) hg, (h.2 r hr).2⟩⟩

/-- What is read there. -/
theorem OwnNums.nums {base : Nat} {w : World} {v : Value} {R : List Nm} (h : OwnNums base w v R) : ∃ ao cap, v = .slice ao R.length cap ∧ NumsAt w ao cap R ∧ NewAt base ao (R.map (fun _ => 0)) := by
  rcases h.1.2 with ⟨hv, h0⟩ | ⟨g, cap, cur, hv, hg, hh, hc, hm, hs, ht⟩
  · have : R = [] := List.length_eq_zero_iff.1 h0
    subst this
    exact ⟨none, 0, hv, ⟨by simp, by simp, .inl rfl⟩, .inl rfl⟩
  · refine ⟨some ⟨g, 0, none⟩, cap, hv, ⟨hc, fun x hx => (h.2 x hx).1, .inr ⟨g, 0, rfl, (Array.getElem?_eq_some_iff.1 hh).1, fun k hk => ?_⟩⟩, .inr ⟨g, 0, rfl, hg⟩⟩
    obtain ⟨q1, q2⟩ := numCells_get R k hk
    rw [← ht, List.getElem?_take] at q1 q2
    rw [if_pos (by omega)] at q1 q2
    rw [cell_of_row w g _ _ _ _ hh, cell_of_row w g _ _ _ _ hh, Nat.zero_add]
    simp only [Array.getElem?_toList] at q1 q2
    exact ⟨q1, q2⟩
theorem OwnRows.mat {base : Nat} {w : World} {v : Value} {M : List Rw} (h : OwnRows base w v M) : ∃ ao cap, v = .slice ao M.length cap ∧ MatAt w ao cap M ∧ NewAt base ao (M.map (fun _ => 0)) := by
  rcases h.1.2 with ⟨hv, h0⟩ | ⟨g, cap, cur, hv, hg, hh, hc, hm, hs, ht⟩
  · have : M = [] := List.length_eq_zero_iff.1 h0
    subst this
    exact ⟨none, 0, hv, ⟨by simp, by simp, .inl rfl⟩, .inl rfl⟩
  · refine ⟨some ⟨g, 0, none⟩, cap, hv, ⟨hc, fun x hx => (h.2 x hx).1, .inr ⟨g, 0, rfl, (Array.getElem?_eq_some_iff.1 hh).1, fun i hi => ?_⟩⟩, .inr ⟨g, 0, rfl, hg⟩⟩
    have q1 : (M.map Rw.v)[i]? = some (rwAt M i).v := by
      rw [List.getElem?_map]
      unfold rwAt
      rw [List.getElem?_eq_getElem hi]; rfl
    rw [← ht, List.getElem?_take, if_pos (by omega)] at q1
    rw [cell_of_row w g _ _ _ _ hh, Nat.zero_add]
    simpa using q1

end Go.Proofs.YtfnnbkclnflpfaaGreatDoor

/- Contracts of package exact's sets. -/
namespace Go.Proofs.YtfnnbkclnflpfaaGreatDoor
open Go.RowKit

/-- The places of a set of bits, rising. -/
def elems (s : Nat) : List Nat := (List.range 6).filter (fun c => s.testBit c)
def sz (s : Nat) : Nat := (elems s).length
def del (s c : Nat) : Nat := if s.testBit c then s - 2 ^ c else s
def ins (s c : Nat) : Nat := if s.testBit c then s else s + 2 ^ c
def abv (s c : Nat) : Nat := ((elems s).filter (fun d => decide (c < d))).length
def top (s : Nat) : Nat := (elems s).getLast?.getD 0

set_option maxHeartbeats 4000000 in
set_option maxRecDepth 100000 in
theorem onesCount64_any (s : Nat) (w : World) (h : s < 64) :
    Calls Tryz.prog 175 #[.int .u64 s] w fun e w' => e = .returned (.int .i64 (sz s)) ∧ w = w' := by
  go_enter Tryz.func175, Tryz.ntmps175
  go_wp2
  go_ret
  refine ⟨ret_int ?_, rfl⟩
  clear w
  revert h; revert s
  decide +kernel

set_option maxHeartbeats 4000000 in
theorem onesCount_any (s : Nat) (w : World) (h : s < 64) :
    Calls Tryz.prog 152 #[.int .u64 s] w fun e w' => e = .returned (.int .i64 (sz s)) ∧ w = w' := by
  go_enter Tryz.func152, Tryz.ntmps152
  go_wp2_with (go_at_call 175; refine (onesCount64_any s _ h).mono ?_; rintro e w' ⟨rfl, rfl⟩)
  go_ret
  exact ⟨rfl, rfl⟩

set_option maxHeartbeats 4000000 in
theorem size_any (s : Nat) (w : World) (h : s < 64) :
    Calls Tryz.prog 107 #[.int .u64 s] w fun e w' => e = .returned (.int .i64 (sz s)) ∧ w = w' := by
  go_enter Tryz.func107, Tryz.ntmps107
  go_wp2_with (go_at_call 152; refine (onesCount_any s _ h).mono ?_; rintro e w' ⟨rfl, rfl⟩)
  go_ret
  exact ⟨rfl, rfl⟩

set_option maxHeartbeats 4000000 in
theorem has_any (s c : Nat) (w : World) (h : s < 64) (hc : c < 6) :
    Calls Tryz.prog 150 #[.int .u64 s, .int .i64 c] w fun e w' => e = .returned (.bool (s.testBit c)) ∧ w = w' := by
  go_enter Tryz.func150, Tryz.ntmps150
  go_wp2
  go_ret
  refine ⟨ret_bool ?_, rfl⟩
  clear w
  revert hc; revert c; revert h; revert s
  decide +kernel

set_option maxHeartbeats 4000000 in
theorem with_any (s c : Nat) (w : World) (h : s < 64) (hc : c < 6) :
    Calls Tryz.prog 149 #[.int .u64 s, .int .i64 c] w fun e w' => e = .returned (.int .u64 (ins s c)) ∧ w = w' := by
  go_enter Tryz.func149, Tryz.ntmps149
  go_wp2
  go_ret
  refine ⟨ret_int ?_, rfl⟩
  clear w
  revert hc; revert c; revert h; revert s
  decide +kernel

set_option maxHeartbeats 4000000 in
theorem without_any (s c : Nat) (w : World) (h : s < 64) (hc : c < 6) :
    Calls Tryz.prog 173 #[.int .u64 s, .int .i64 c] w fun e w' => e = .returned (.int .u64 (del s c)) ∧ w = w' := by
  go_enter Tryz.func173, Tryz.ntmps173
  go_wp2
  go_ret
  refine ⟨ret_int ?_, rfl⟩
  clear w
  revert hc; revert c; revert h; revert s
  decide +kernel

theorem size_x (x : Int) (s : Nat) (w : World) (hx : x = (s : Int)) (h : s < 64) :
    Calls Tryz.prog 107 #[.int .u64 x] w fun e w' => e = .returned (.int .i64 (sz s)) ∧ w = w' := by
  subst hx; exact size_any s w h

theorem abv_eq : ∀ s, s < 64 → ∀ c, c < 6 → sz (s / 2 ^ (c + 1)) = abv s c ∧ s / 2 ^ (c + 1) < 64 := by decide +kernel

set_option maxHeartbeats 4000000 in
theorem above_any (s c : Nat) (w : World) (h : s < 64) (hc : c < 6) :
    Calls Tryz.prog 182 #[.int .u64 s, .int .i64 c] w fun e w' => e = .returned (.int .i64 (abv s c)) ∧ w = w' := by
  obtain ⟨a1, a2⟩ := abv_eq s h c hc
  rw [← a1]
  clear a1
  have C := hide (fun w => size_x ((s : Int) / 2 ^ (c + 1)) (s / 2 ^ (c + 1)) w (by rw [Int.natCast_ediv]; simp [Int.natCast_pow]) a2)
  clear a2
  generalize sz (s / 2 ^ (c + 1)) = n at *
  go_enter Tryz.func182, Tryz.ntmps182
  go_wp2_with fail
  refine (unhide C _).mono ?_
  rintro e w' ⟨rfl, rfl⟩
  go_wp2
  go_ret
  exact ⟨rfl, rfl⟩

theorem bitLen_top : ∀ s, s < 64 → 0 < s → Lib.bitLen s = top s + 1 ∧ top s < 6 := by decide +kernel

set_option maxHeartbeats 4000000 in
set_option maxRecDepth 100000 in
theorem len64_x (x : Int) (w : World) (h0 : 0 ≤ x) (h1 : x < 64) :
    Calls Tryz.prog 187 #[.int .u64 x] w fun e w' => e = .returned (.int .i64 (Lib.bitLen x.toNat)) ∧ w = w' := by
  have hi := fun w => Lib.run_index_len8tab (P := Tryz.prog) w 9 .u8 (x) Tryz.underlying9 (by omega) (by omega)
  have l1 := Lib.len8_eq ⟨(x).toNat, by omega⟩
  have l2 := Lib.bitLen_le8 ⟨(x).toNat, by omega⟩
  have hl0 : 0 ≤ Lib.len8 (x) := by simp only [Int.toNat_of_nonneg (show 0 ≤ x by omega)] at l1; rw [l1]; omega
  have hl8 : Lib.len8 (x) ≤ 8 := by simp only [Int.toNat_of_nonneg (show 0 ≤ x by omega)] at l1; rw [l1]; simp only at l2; omega
  have HE : Hid (Lib.len8 (x) = (Lib.bitLen (x).toNat : Int)) := by unfold Hid; simp only [Int.toNat_of_nonneg (show 0 ≤ x by omega)] at l1; exact l1
  clear l1 l2
  go_enter Tryz.func187, Tryz.ntmps187
  go_wp2
  go_ret
  refine ⟨ret_int ?_, rfl⟩
  rw [HE.out]
theorem len64_any (s : Nat) (w : World) (h : s < 64) :
    Calls Tryz.prog 187 #[.int .u64 s] w fun e w' => e = .returned (.int .i64 (Lib.bitLen s)) ∧ w = w' := by
  have := len64_x s w (by omega) (by omega)
  rwa [Int.toNat_natCast] at this

set_option maxHeartbeats 4000000 in
theorem slen_any (s : Nat) (w : World) (h : s < 64) :
    Calls Tryz.prog 181 #[.int .u64 s] w fun e w' => e = .returned (.int .i64 (Lib.bitLen s)) ∧ w = w' := by
  go_enter Tryz.func181, Tryz.ntmps181
  go_wp2_with (go_at_call 187; refine (len64_any s _ h).mono ?_; rintro e w' ⟨rfl, rfl⟩)
  go_ret
  exact ⟨rfl, rfl⟩

set_option maxHeartbeats 4000000 in
theorem last_any (s : Nat) (w : World) (h : s < 64) (h0 : 0 < s) :
    Calls Tryz.prog 170 #[.int .u64 s] w fun e w' => e = .returned (.int .i64 (top s)) ∧ w = w' := by
  obtain ⟨b1, b2⟩ := bitLen_top s h h0
  have C := hide (fun w => slen_any s w h)
  rw [b1] at C
  clear b1
  generalize top s = t at *
  go_enter Tryz.func170, Tryz.ntmps170
  go_wp2_with fail
  refine (unhide C _).mono ?_
  rintro e w' ⟨rfl, rfl⟩
  go_wp2
  go_ret
  refine ⟨ret_int ?_, rfl⟩
  simp

end Go.Proofs.YtfnnbkclnflpfaaGreatDoor

/- Contracts of exact's width, wellShaped. -/
namespace Go.Proofs.YtfnnbkclnflpfaaGreatDoor
open Go.RowKit

/-- Lengths that no wrap touches. -/
def SmallM (M : List Rw) : Prop := M.length ≤ 35184372088830 ∧ ∀ r ∈ M, r.R.length ≤ 35184372088830 ∧ ∀ x ∈ r.R, x.L.length ≤ 35184372088830

theorem SmallM.row {M : List Rw} (h : SmallM M) (i : Nat) : (rwAt M i).R.length ≤ 35184372088830 := by
  by_cases hi : i < M.length
  · exact (h.2 _ (rwAt_mem hi)).1
  · unfold rwAt; rw [List.getElem?_eq_none (by omega)]; simp [Rw.nil]

set_option maxHeartbeats 4000000 in
theorem width_any (ao : Option Addr) (cap : Nat) (M : List Rw) (w : World) (h : MatAt w ao cap M) (hs : SmallM M) :
    Calls Tryz.prog 169 #[.slice ao M.length cap] w fun e w' => e = .returned (.int .i64 (width M)) ∧ w = w' := by
  by_cases h0 : M = []
  · subst h0
    go_enter Tryz.func169, Tryz.ntmps169
    go_wp2
    go_ret
    exact ⟨rfl, rfl⟩
  · have hp : 0 < M.length := List.length_pos_iff.2 h0
    obtain ⟨b, off, rfl, hb, hc⟩ := h.ne hp
    have hc0 := hc 0 hp
    rw [Nat.add_zero] at hc0
    have hne : ((M.length : Int) == 0) = false := by simp; exact h0
    have hr := hs.row 0
    clear h hc hs h0
    unfold width
    generalize (rwAt M 0).R.length = n at *
    generalize (rwAt M 0).ao = a0 at *
    generalize (rwAt M 0).cap = c0 at *
    generalize M.length = m at *
    have hmI : (0 : Int) < (m : Int) := by omega
    go_enter Tryz.func169, Tryz.ntmps169
    go_wp2
    go_ret
    exact ⟨rfl, rfl⟩

/-- Are there not too many rows, nor columns, as many in each? -/
def shapeB (M : List Rw) : Bool := decide (M.length ≤ 6) && decide (width M ≤ 6) && M.all (fun r => decide (r.R.length = width M))

set_option maxHeartbeats 4000000 in
theorem wellShaped_any (ao : Option Addr) (cap : Nat) (M : List Rw) (w : World) (h : MatAt w ao cap M) (hs : SmallM M) :
    Calls Tryz.prog 145 #[.slice ao M.length cap] w fun e w' => e = .returned (.bool (shapeB M)) ∧ w = w' := by
  have CW := hide (fun w' (h : MatAt w' ao cap M) => width_any ao cap M w' h hs)
  have hw : width M ≤ 35184372088830 := hs.row 0
  have HS := hide hs
  by_cases h6 : M.length ≤ 6
  · by_cases w6 : width M ≤ 6
    · obtain ⟨n, hn⟩ : ∃ n, width M = n := ⟨_, rfl⟩
      have HE : Hid (shapeB M = M.all (fun r => decide (r.R.length = n))) := by unfold Hid; rw [hn] at w6; simp only [shapeB, hn, decide_eq_true h6, decide_eq_true w6, Bool.true_and]
      rw [hn] at CW w6
      generalize shapeB M = sb at *
      clear hs hw hn
      have h6' : ¬ (6 : Int) < (M.length : Int) := by omega
      have w6' : ¬ (6 : Int) < (n : Int) := by omega
      go_enter Tryz.func145, Tryz.ntmps145
      go_wp2_with (go_at_call 169; refine (unhide CW _ h).mono ?_; rintro e w' ⟨rfl, rfl⟩)
      go_loop [15] (fun i => ∃ k : Nat, k ≤ M.length ∧ i = .int .i64 k ∧ Hid (∀ j, j < k → (rwAt M j).R.length = n)) (fun i => M.length - (intOf i).toNat)
      case atStart => exact ⟨0, Nat.zero_le _, rfl, by unfold Hid; intro j hj; omega⟩
      case round =>
        obtain ⟨k, hk, rfl, hq⟩ := hrel
        by_cases hlt : k < M.length
        · obtain ⟨b, off, hao, hb, hc⟩ := h.ne (by omega)
          have hck := hc k hlt
          have hr := (unhide HS).row k
          have hkI : (k : Int) < (M.length : Int) := by omega
          obtain ⟨m, hm⟩ : ∃ m, (rwAt M k).R.length = m := ⟨_, rfl⟩
          rw [hm] at hck hr
          generalize (rwAt M k).ao = a0 at *
          generalize (rwAt M k).cap = c0 at *
          clear hc
          by_cases e : m = n
          · subst e
            have hee : ((m : Int) == (m : Int)) = true := by simp
            subst hao
            have HQ : Hid (∀ j, j < k + 1 → (rwAt M j).R.length = m) := by
              unfold Hid; intro j hj
              rcases Nat.lt_succ_iff_lt_or_eq.1 hj with h | rfl
              · exact hq.out j h
              · exact hm
            clear hq hm
            go_wp2_with (go_at_call 169; refine (unhide CW _ h).mono ?_; rintro e w' ⟨rfl, rfl⟩)
            go_round
            case rel => exact ⟨k + 1, by omega, by go_num, HQ⟩
            case measure => simp [intOf]; omega
          · have hee : ((m : Int) == (n : Int)) = false := by simp; omega
            subst hao
            have HF : Hid (sb = false) := by
              unfold Hid; rw [HE.out, List.all_eq_false]
              exact ⟨rwAt M k, rwAt_mem hlt, by simp; omega⟩
            clear hq hm
            go_wp2_with (go_at_call 169; refine (unhide CW _ h).mono ?_; rintro e w' ⟨rfl, rfl⟩)
            go_ret
            exact ⟨ret_bool HF.out.symm, rfl⟩
        · have HT : Hid (sb = true) := by
            unfold Hid; rw [HE.out, List.all_eq_true]
            intro r hr
            obtain ⟨j, hj, rfl⟩ := List.getElem_of_mem hr
            have := hq.out j (by omega)
            unfold rwAt at this
            rw [List.getElem?_eq_getElem hj] at this
            simpa using this
          have hkk : k = M.length := by omega
          subst hkk
          clear hq
          go_wp2
          go_ret
          exact ⟨ret_bool HT.out.symm, rfl⟩
    · have HF : Hid (shapeB M = false) := by unfold Hid; simp [shapeB, w6]
      generalize shapeB M = sb at *
      generalize width M = n at *
      have h6' : ¬ (6 : Int) < (M.length : Int) := by omega
      have w6' : (6 : Int) < (n : Int) := by omega
      clear hs
      go_enter Tryz.func145, Tryz.ntmps145
      go_wp2_with (go_at_call 169; refine (unhide CW _ h).mono ?_; rintro e w' ⟨rfl, rfl⟩)
      go_ret
      exact ⟨ret_bool HF.out.symm, rfl⟩
  · have HF : Hid (shapeB M = false) := by unfold Hid; simp [shapeB, h6]
    generalize shapeB M = sb at *
    have h6' : (6 : Int) < (M.length : Int) := by omega
    have hl := hs.1
    clear hs
    go_enter Tryz.func145, Tryz.ntmps145
    go_wp2_with fail
    go_ret
    exact ⟨ret_bool HF.out.symm, rfl⟩

end Go.Proofs.YtfnnbkclnflpfaaGreatDoor

