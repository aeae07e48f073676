/- Part 29 of the texts. -/
import Derived.Test.YtfnnbkclnflpfaaGreatDoorPartQ25
import Derived.Deep.RegionWith
import Derived.Deep.RegionLaw
import Derived.Test.YtfnnbkclnflpfaaGreatDoorPartQ20
import Derived.Deep.RegionHeld3
import Derived.Test.YtfnnbkclnflpfaaGreatDoorPartQ28
import Derived.Test.YtfnnbkclnflpfaaGreatDoorPartQ21
import Derived.Test.YtfnnbkclnflpfaaGreatDoorPartQ05
import Derived.Test.YtfnnbkclnflpfaaGreatDoorPartQ06
import Derived.Maps.AppendAt
/- The reference of layer 10: Eye, In. -/
namespace Go.Proofs.YtfnnbkclnflpfaaGreatDoor
open Go.RowKit
attribute [local go_sem ↓] Go.wp_at_zero Go.wp_at_succ

/-- A matrix in a variable's box at g, the result's box at gr. -/
structure LpSt (w wr : World) (g gr p q : Nat) (mo : Option Addr) (mc : Nat) (S : List Nat) : Prop where
  bel : Below w.heap.size w wr
  box : BoxM wr g (.int .i64 p) (.int .i64 q) (.slice mo S.length mc)
  res : BoxM wr gr (.int .i64 0) (.int .i64 0) (.slice none 0 0)
  bits : BitsAt wr mo mc (mxL S)
  ne : gr ≠ g
  lo : w.heap.size ≤ g
theorem LpSt.all {w wr w' : World} {g gr p q : Nat} {mo : Option Addr} {mc : Nat} {S : List Nat} (h : LpSt w wr g gr p q mo mc S) (hb : Below wr.heap.size wr w') : LpSt w w' g gr p q mo mc S :=
  ⟨h.bel.trans (hb.mono h.bel.size), h.box.all hb, h.res.all hb, h.bits.below hb, h.ne, h.lo⟩
theorem LpSt.put {w wr : World} {g gr p q : Nat} {mo : Option Addr} {mc : Nat} {S : List Nat} (h : LpSt w wr g gr p q mo mc S) {no : Option Addr} {nc : Nat} {T : List Nat} (hT : BitsAt wr no nc (mxL T)) :
    LpSt w (((wr.setCell ⟨g, 0, none⟩ (.int .i64 p)).setCell ⟨g, 1, none⟩ (.int .i64 q)).setCell ⟨g, 2, none⟩ (.slice no T.length nc)) g gr p q no nc T :=
  ⟨below_putM h.bel h.lo _ _ _, h.box.put _ _ _, ((h.res.other (p := ⟨g, 0, none⟩) h.ne _).other (p := ⟨g, 1, none⟩) h.ne _).other (p := ⟨g, 2, none⟩) h.ne _, hT.putM h.box _ _ _, h.ne, h.lo⟩

theorem NewM.any {w : World} {r c : Nat} {S : List Nat} {ao : Option Addr} {cap : Nat} (h : BitsAt w ao cap (mxL S)) : NewM 0 w r c S (.agg #[.int .i64 r, .int .i64 c, .slice ao S.length cap]) := by
  refine ⟨ao, cap, rfl, ?_, h⟩
  rcases h.2.2 with e | ⟨b, off, e1, _, _⟩
  · exact .inl e
  · exact .inr ⟨b, off, e1, Nat.zero_le _⟩

end Go.Proofs.YtfnnbkclnflpfaaGreatDoor

/- Layer 10: differences (the program's Sub and the reference's), the reference's columns. -/
namespace Go.Proofs.YtfnnbkclnflpfaaGreatDoor
open Go.RowKit
attribute [local go_sem ↓] Go.wp_at_zero Go.wp_at_succ
/-- A column's numbers. -/
def clL (r c : Nat) (S : List Nat) (k : Nat) : List Nat := fsL (fun i => elM c S i k) r

set_option maxRecDepth 20000 in
set_option maxHeartbeats 4000000 in
theorem rcol_any (r c cap k : Nat) (ao : Option Addr) (S : List Nat) (w : World) (h : Mx w ao cap r c S) (hk : k < c) :
    Calls Tryz.prog 46 #[.agg #[.int .i64 r, .int .i64 c, .slice ao S.length cap], .int .i64 k, .int .i64 0] w fun e w' => ∃ bo d, e = .returned (.slice bo r d) ∧ BitsAt w' bo d (mxL (clL r c S k)) ∧ Below w.heap.size w w' := by
  have HH := hide h
  have r6 := h.2.2.1
  have s0 := size_alloc9 w (.cells #[.int .i64 r, .int .i64 c, .slice ao S.length cap] 24)
  have b0 := below_alloc9 w (.cells #[.int .i64 r, .int .i64 c, .slice ao S.length cap] 24)
  have X0 := BoxM.new w (.int .i64 r) (.int .i64 c) (.slice ao S.length cap)
  have b1 := below_alloc9 (w.alloc (.cells #[.int .i64 r, .int .i64 c, .slice ao S.length cap] 24)) (.cells #[] 52)
  have O0 := OwnB.nil (w.alloc (.cells #[.int .i64 r, .int .i64 c, .slice ao S.length cap] 24)) (w.heap.size + 1) (by rw [s0]; omega)
  rw [s0] at O0
  have HO := hide O0; have HX := hide (X0.all b1); have HB := hide (b0.trans (b1.mono b0.size))
  obtain ⟨l, hl⟩ : ∃ l, S.length = l := ⟨_, rfl⟩
  rw [hl] at HX HB HO
  rw [hl]
  have HLL := hide hl
  clear h s0 b0 X0 b1 O0 hl
  go_enter Tryz.func46, Tryz.ntmps46
  go_wp2_with fail
  go_loopw [7, 8] (fun v i wr => ∃ j : Nat, j ≤ r ∧ i = .int .i64 j ∧ Hid (OwnB (w.heap.size + 1) wr v (fsL (fun i => elM c S i k) j)) ∧ Hid (BoxM wr w.heap.size (.int .i64 r) (.int .i64 c) (.slice ao l cap)) ∧ Hid (Below w.heap.size w wr)) (fun _ i _ => r - (intOf i).toNat)
  case atStart => exact ⟨0, Nat.zero_le _, rfl, HO, HX, HB⟩
  case round =>
    clear HO HX HB
    obtain ⟨j, hj, rfl, hO, hX, hB⟩ := hrel
    have t0 := (unhide hX).c0; have t1 := (unhide hX).c1; have t2 := (unhide hX).c2
    by_cases hlt : j < r
    · have hjI : (j : Int) < (r : Int) := by omega
      have C := hide (fun w' (m : Mx w' ao cap r c S) => rat_any r c cap j k ao S w' m hlt hk)
      rw [unhide HLL] at C
      have HM := hide ((unhide HH).below hB.out)
      have ho := hide ((unhide HH).el_lt j k)
      have hlen := hide (show (fsL (fun i => elM c S i k) j).length ≤ 1000000 from by rw [fsL_len]; omega)
      have eS := hide (fsL_succ (fun i => elM c S i k) j)
      generalize elM c S j k = o at *
      go_wp2_with fail
      refine (unhide C _ (unhide HM)).mono ?_
      rintro e w2 ⟨rfl, hb2⟩
      have own2 := (unhide hO).below hb2
      have box2 := (unhide hX).all hb2
      have B2 := hB.out.trans (hb2.mono hB.out.size)
      obtain ⟨v3, w3, run3, own3, bel3, _, _⟩ := own2.push o (unhide ho) (unhide hlen) (by have := box2.lt; omega) 22
      have RUN := hide run3
      have O3 := hide (show OwnB (w.heap.size + 1) w3 v3 (fsL (fun i => elM c S i k) (j + 1)) from by rw [unhide eS]; exact own3)
      have X3 := hide (box2.below bel3 (by omega))
      have B3 := hide (B2.trans (bel3.mono (by omega)))
      clear hb2 C hO hX hB own2 box2 B2 run3 own3 bel3 ho hlen eS HM t0 t1 t2
      go_wp2_with (at_builtin; refine wpList_append_ran _ rfl _ _ 22 rfl _ _ _ _ rfl rfl (unhide RUN) ?_; clear RUN)
      go_round
      case rel => exact ⟨j + 1, by omega, by go_num, O3, X3, B3⟩
      case measure => simp [intOf]; omega
    · have hjj : r = j := by omega
      subst hjj
      obtain ⟨b1, d1, e1, q1⟩ := (unhide hO).bits
      rw [fsL_len] at e1
      subst e1
      have Q1 := hide q1
      clear q1 hO
      go_wp2_with fail
      go_ret
      exact ⟨b1, d1, rfl, unhide Q1, hB.out⟩

end Go.Proofs.YtfnnbkclnflpfaaGreatDoor

/- The reference of layer 11, of matrices of finite numbers. -/
namespace Go.Proofs.YtfnnbkclnflpfaaGreatDoor
open Go.RowKit
attribute [local go_sem ↓] Go.wp_at_zero Go.wp_at_succ
theorem clL_len (r c : Nat) (S : List Nat) (k : Nat) : (clL r c S k).length = r := fsL_len _ _
theorem clL_atB (r c : Nat) (S : List Nat) (k : Nat) {j : Nat} (h : j < r) : atB (mxL (clL r c S k)) j = elM c S j k := by
  rw [mxL_at]
  simp [clL, fsL, List.getD_eq_getElem?_getD, h]

/-- A sum of products. -/
theorem rdot_any (ao bo : Option Addr) (c d n : Nat) (I J : List Int) (w : World) (hI : BitsAt w ao c I) (hJ : BitsAt w bo d J) (hi : I.length = n) (hj : J.length = n) (hn : n ≤ 8) (fI : ∀ k, k < n → fFin (atB I k) = true) (fJ : ∀ k, k < n → fFin (atB J k) = true) :
    Calls Tryz.prog 45 #[.slice ao n c, .slice bo n d] w fun e w' => ∃ v, e = .returned v ∧ IsLv w' v (-2148) (smI (fun j => fZ (atB I j) * fZ (atB J j)) n) ∧ Below w.heap.size w w' :=
  rdot_of ao bo c d n I J (-1074) (-2148) (fun k => fZ (atB I k)) (fun k => fZ (atB J k)) (fun k => smI (fun j => fZ (atB I j) * fZ (atB J j)) k) w hI hJ hi hj hn rfl
    (fun w' k hk => rvalueN _ w' (hI.lt k) (fI k hk)) (fun w' k hk => rvalueN _ w' (hJ.lt k) (fJ k hk)) (fun w' k v u hk hv hu => rmulV (hI.lt k) (hJ.lt k) (fI k hk) (fJ k hk) hv hu)
    (fun w' k v u hk hv hu => raddN hv hu (dt_lvl k (by omega) _ _ (fun j hj => fI j (by omega)) (fun j hj => fJ j (by omega))) (pr_lvl _ _ (fI k hk) (fJ k hk)))

theorem rdot_el (ao bo : Option Addr) (c d n : Nat) (I J : List Int) (x y : Nat → Nat) (w : World) (hI : BitsAt w ao c I) (hJ : BitsAt w bo d J) (hi : I.length = n) (hj : J.length = n) (hn : n ≤ 8) (eI : ∀ k, k < n → atB I k = x k) (eJ : ∀ k, k < n → atB J k = y k) (fI : ∀ k, fFin (x k) = true) (fJ : ∀ k, fFin (y k) = true) :
    Calls Tryz.prog 45 #[.slice ao n c, .slice bo n d] w fun e w' => ∃ v, e = .returned v ∧ IsLv w' v (-2148) (dtZ n x y) ∧ Below w.heap.size w w' := by
  have C := rdot_any ao bo c d n I J w hI hJ hi hj hn (fun k hk => by rw [eI k hk]; exact fI k) (fun k hk => by rw [eJ k hk]; exact fJ k)
  have e : smI (fun j => fZ (atB I j) * fZ (atB J j)) n = dtZ n x y := smI_congr n (fun k hk => by show fZ (atB I k) * fZ (atB J k) = _; rw [eI k hk, eJ k hk])
  rwa [e] at C

/-- One, at the level of products. -/
theorem rone11 (w : World) (B : Nat) (v : Value) (h : IsNum B w v 1) : Calls Tryz.prog 48 #[v, .int .i64 0] w fun e w' => ∃ u, e = .returned u ∧ IsLv w' u (-2148) (2 ^ 2148) ∧ Below w.heap.size w w' := by
  refine (rof_small 0 (h.toM (lt_TOP (k := 1) (by decide) (by decide))) (by decide) (by decide)).mono ?_
  rintro e w' ⟨u, rfl, hu, hb⟩
  refine ⟨u, rfl, ?_, hb⟩
  have := IsLv.lower (show IsLv w' u 0 1 from hu) 2148
  rwa [Int.one_mul, show (0 : Int) - (2148 : Nat) = -2148 by decide] at this

theorem rOrth_any (r c cap : Nat) (ao : Option Addr) (Q : List Nat) (w : World) (h : Mx w ao cap r c Q) (hf : ∀ x ∈ Q, fFin x = true) :
    Calls Tryz.prog 16 #[.agg #[.int .i64 r, .int .i64 c, .slice ao Q.length cap]] w fun e w' => ∃ v, e = .returned v ∧ IsLv w' v (-4296) (orQ r c Q) ∧ Below w.heap.size w w' := by
  have r6 := h.2.2.1
  have c6 := h.2.2.2
  have ol : ∀ i k, Lvl (-2148) 4200 (orZ r c Q i k) := fun i k => ⟨orZ_lt r c Q i k (by omega) hf, by decide, by decide, by decide⟩
  have pl : ∀ i k, Lvl (-4296) 8407 (orZ r c Q i k * orZ r c Q i k) := fun i k => (show Lvl (-4296) 8400 _ from ⟨mul_ltV (j := 4200) (k := 4200) (V := 8400) (by decide) (ol i k).1 (ol i k).1, by decide, by decide, by decide⟩).more (by decide) (by decide) (by decide)
  have C := rOrth_of r c Q.length cap ao (fun k => mxL (clL r c Q k)) (-2148) (-4296) (2 ^ 2148) (fun i k => dtZ r (fun j => elM c Q j i) (fun j => elM c Q j k)) (fun i k => orZ r c Q i k) (fun i k => rnI (fun i k => orZ r c Q i k * orZ r c Q i k) c i k) w c6
    (fun i => by show dtZ r _ _ - (if i = i then 2 ^ 2148 else 0) = _; rw [if_pos rfl]) (fun i k hik => by show dtZ r _ _ - (if i = k then 2 ^ 2148 else 0) = _; rw [if_neg hik, Int.sub_zero]) rfl (fun i => (rnI_row _ c i).symm)
    (fun w' k hb hk => rcol_any r c cap k ao Q w' (h.below hb) hk)
    (fun w' i k xo xd yo yd _ _ hx hy => rdot_el xo yo xd yd r _ _ (fun j => elM c Q j i) (fun j => elM c Q j k) w' hx hy (by rw [mxL_len, clL_len]) (by rw [mxL_len, clL_len]) (by omega) (fun j hj => clL_atB r c Q i hj) (fun j hj => clL_atB r c Q k hj) (fun j => el_fin c Q j i hf) (fun j => el_fin c Q j k hf))
    (fun w' B v hv => rone11 w' B v hv)
    (fun w' i v u _ hv hu => rsubN hv hu (dt_lvl r (by omega) _ _ (fun l _ => el_fin c Q l i hf) (fun l _ => el_fin c Q l i hf)) ⟨pow_ltV (j := 2148) (V := 4200) (by decide), by decide, by decide, by decide⟩)
    (fun w' i k v _ _ hv => rmulL hv hv (ol i k) (ol i k) (by decide))
    (fun w' i k v u hi hk hv hu => by
      rw [rnI_step]
      exact raddN hv hu ⟨rnI_ltV (W := 8400) (V := 8407) (by decide) c c i k (by omega) (by omega) (by omega) (by omega) (fun i k _ => mul_ltV (j := 4200) (k := 4200) (V := 8400) (by decide) (ol i k).1 (ol i k).1), by decide, by decide, by decide⟩ (pl i k))
  rw [rnI_all] at C
  exact C

end Go.Proofs.YtfnnbkclnflpfaaGreatDoor

/- Rows of numbers, as they lie in memory. -/
namespace Go.Proofs.YtfnnbkclnflpfaaGreatDoor
open Go.RowKit

/-- A number in memory: its sign, where its limbs lie, the limbs. -/
structure Nm where
  neg : Bool
  ao : Option Addr
  cap : Nat
  L : List Nat

/-- A row in memory: where its numbers lie, the numbers. -/
structure Rw where
  ao : Option Addr
  cap : Nat
  R : List Nm

def Nm.nil : Nm := ⟨false, none, 0, []⟩
def Rw.nil : Rw := ⟨none, 0, []⟩
def nmAt (R : List Nm) (k : Nat) : Nm := R[k]?.getD Nm.nil
def rwAt (M : List Rw) (i : Nat) : Rw := M[i]?.getD Rw.nil
def Nm.v (x : Nm) : Value := .agg #[.bool x.neg, .slice x.ao x.L.length x.cap]
def Rw.v (r : Rw) : Value := .slice r.ao r.R.length r.cap

/-- The numbers R lie at ao. -/
def NumsAt (w : World) (ao : Option Addr) (cap : Nat) (R : List Nm) : Prop :=
  R.length ≤ cap ∧ (∀ x ∈ R, LimbsAt w x.ao x.cap x.L) ∧ (R = [] ∨ ∃ b off, ao = some ⟨b, off, none⟩ ∧ b < w.heap.size ∧ ∀ k, k < R.length → w.cell? ⟨b, off + k * 2, none⟩ = some (.bool (nmAt R k).neg) ∧ w.cell? ⟨b, off + k * 2 + 1, none⟩ = some (.slice (nmAt R k).ao (nmAt R k).L.length (nmAt R k).cap))

/-- The rows M lie at ao. -/
def MatAt (w : World) (ao : Option Addr) (cap : Nat) (M : List Rw) : Prop :=
  M.length ≤ cap ∧ (∀ r ∈ M, NumsAt w r.ao r.cap r.R) ∧ (M = [] ∨ ∃ b off, ao = some ⟨b, off, none⟩ ∧ b < w.heap.size ∧ ∀ i, i < M.length → w.cell? ⟨b, off + i, none⟩ = some (rwAt M i).v)

theorem nmAt_mem {R : List Nm} {k : Nat} (h : k < R.length) : nmAt R k ∈ R := by
  unfold nmAt; rw [List.getElem?_eq_getElem h]; exact List.getElem_mem h
theorem rwAt_mem {M : List Rw} {i : Nat} (h : i < M.length) : rwAt M i ∈ M := by
  unfold rwAt; rw [List.getElem?_eq_getElem h]; exact List.getElem_mem h

theorem NumsAt.below {w w' : World} {ao : Option Addr} {cap : Nat} {R : List Nm} (h : NumsAt w ao cap R) (hb : Below w.heap.size w w') : NumsAt w' ao cap R := by
  refine ⟨h.1, fun x hx => (h.2.1 x hx).below hb, ?_⟩
  rcases h.2.2 with e | ⟨b, off, h1, h2, h3⟩
  · exact .inl e
  · refine .inr ⟨b, off, h1, Nat.lt_of_lt_of_le h2 hb.size, fun k hk => ?_⟩
    rw [hb.cell (p := ⟨b, off + k * 2, none⟩) h2, hb.cell (p := ⟨b, off + k * 2 + 1, none⟩) h2]
    exact h3 k hk

theorem MatAt.below {w w' : World} {ao : Option Addr} {cap : Nat} {M : List Rw} (h : MatAt w ao cap M) (hb : Below w.heap.size w w') : MatAt w' ao cap M := by
  refine ⟨h.1, fun r hr => (h.2.1 r hr).below hb, ?_⟩
  rcases h.2.2 with e | ⟨b, off, h1, h2, h3⟩
  · exact .inl e
  · refine .inr ⟨b, off, h1, Nat.lt_of_lt_of_le h2 hb.size, fun i hi => ?_⟩
    rw [hb.cell (p := ⟨b, off + i, none⟩) h2]
    exact h3 i hi

theorem NumsAt.limbs {w : World} {ao : Option Addr} {cap : Nat} {R : List Nm} (h : NumsAt w ao cap R) {k : Nat} (hk : k < R.length) : LimbsAt w (nmAt R k).ao (nmAt R k).cap (nmAt R k).L := h.2.1 _ (nmAt_mem hk)
theorem MatAt.nums {w : World} {ao : Option Addr} {cap : Nat} {M : List Rw} (h : MatAt w ao cap M) {i : Nat} (hi : i < M.length) : NumsAt w (rwAt M i).ao (rwAt M i).cap (rwAt M i).R := h.2.1 _ (rwAt_mem hi)

theorem NumsAt.ne {w : World} {ao : Option Addr} {cap : Nat} {R : List Nm} (h : NumsAt w ao cap R) (h0 : 0 < R.length) : ∃ b off, ao = some ⟨b, off, none⟩ ∧ b < w.heap.size ∧ ∀ k, k < R.length → w.cell? ⟨b, off + k * 2, none⟩ = some (.bool (nmAt R k).neg) ∧ w.cell? ⟨b, off + k * 2 + 1, none⟩ = some (.slice (nmAt R k).ao (nmAt R k).L.length (nmAt R k).cap) := by
  rcases h.2.2 with e | e
  · rw [e] at h0; simp at h0
  · exact e
theorem MatAt.ne {w : World} {ao : Option Addr} {cap : Nat} {M : List Rw} (h : MatAt w ao cap M) (h0 : 0 < M.length) : ∃ b off, ao = some ⟨b, off, none⟩ ∧ b < w.heap.size ∧ ∀ i, i < M.length → w.cell? ⟨b, off + i, none⟩ = some (.slice (rwAt M i).ao (rwAt M i).R.length (rwAt M i).cap) := by
  rcases h.2.2 with e | e
  · rw [e] at h0; simp at h0
  · exact e

/-- What the rows say. -/
def entry (M : List Rw) (i k : Nat) : Nm := nmAt (rwAt M i).R k
def width (M : List Rw) : Nat := (rwAt M 0).R.length

end Go.Proofs.YtfnnbkclnflpfaaGreatDoor

/- Rows of numbers, and rows of rows, that a call itself makes by appending. -/
namespace Go.Proofs.YtfnnbkclnflpfaaGreatDoor
open Go.RowKit

/-- The number's limbs don't lie in block g. -/
def Av (g : Option Nat) (x : Nm) : Prop := x.L = [] ∨ ∃ b off, x.ao = some ⟨b, off, none⟩ ∧ some b ≠ g
/-- Nothing of the row lies in block g. -/
def AvR (g : Option Nat) (r : Rw) : Prop := (r.R = [] ∨ ∃ b off, r.ao = some ⟨b, off, none⟩ ∧ some b ≠ g) ∧ ∀ x ∈ r.R, Av g x
def numCells (R : List Nm) : List Value := R.flatMap (fun x => [.bool x.neg, .slice x.ao x.L.length x.cap])

theorem Av.none (w : World) (x : Nm) (h : LimbsAt w x.ao x.cap x.L) : Av none x := by
  rcases h.2.2 with e | ⟨b, off, e, _⟩
  · exact .inl e
  · exact .inr ⟨b, off, e, by simp⟩
theorem Av.new {w : World} {x : Nm} (h : LimbsAt w x.ao x.cap x.L) {g : Nat} (hg : w.heap.size ≤ g) : Av (some g) x := by
  rcases h.2.2 with e | ⟨b, off, e, hb, _⟩
  · exact .inl e
  · exact .inr ⟨b, off, e, by intro e; cases e; omega⟩
theorem Av.old {B : Nat} {x : Nm} (h : NewAt B x.ao x.L) {g : Option Nat} (hg : ∀ m, g = some m → m < B) : Av g x := by
  rcases h with e | ⟨b, off, e, hb⟩
  · exact .inl e
  · exact .inr ⟨b, off, e, fun e => by have := hg b e.symm; omega⟩
theorem AvR.new {w : World} {r : Rw} (h : NumsAt w r.ao r.cap r.R) {g : Nat} (hg : w.heap.size ≤ g) : AvR (some g) r := by
  refine ⟨?_, fun x hx => Av.new (h.2.1 x hx) hg⟩
  rcases h.2.2 with e | ⟨b, off, e, hb, _⟩
  · exact .inl e
  · exact .inr ⟨b, off, e, by intro e; cases e; omega⟩
theorem AvR.none {w : World} {r : Rw} (h : NumsAt w r.ao r.cap r.R) : AvR none r := by
  refine ⟨?_, fun x hx => Av.none w x (h.2.1 x hx)⟩
  rcases h.2.2 with e | ⟨b, off, e, hb, _⟩
  · exact .inl e
  · exact .inr ⟨b, off, e, by simp⟩

theorem LimbsAt.grownAv {w w' : World} {x : Nm} {g : Option Nat} (h : LimbsAt w x.ao x.cap x.L) (ha : Av g x) (hg : w.grownBy w' g) : LimbsAt w' x.ao x.cap x.L := by
  refine ⟨h.1, h.2.1, ?_⟩
  rcases h.2.2 with e | ⟨b, off, e, hb, hc⟩
  · exact .inl e
  · rcases ha with e' | ⟨b', off', e', hne⟩
    · exact .inl e'
    · rw [e] at e'
      simp only [Option.some.injEq, Addr.mk.injEq] at e'
      obtain ⟨rfl, rfl, _⟩ := e'
      refine .inr ⟨b, off, e, Nat.lt_of_lt_of_le hb hg.size, fun i hi => ?_⟩
      rw [World.cell?_of_block (a := ⟨b, off + i, none⟩) (hg.block b hb hne)]
      exact hc i hi
theorem NumsAt.grownAv {w w' : World} {r : Rw} {g : Option Nat} (h : NumsAt w r.ao r.cap r.R) (ha : AvR g r) (hg : w.grownBy w' g) : NumsAt w' r.ao r.cap r.R := by
  refine ⟨h.1, fun x hx => (h.2.1 x hx).grownAv (ha.2 x hx) hg, ?_⟩
  rcases h.2.2 with e | ⟨b, off, e, hb, hc⟩
  · exact .inl e
  · rcases ha.1 with e' | ⟨b', off', e', hne⟩
    · exact .inl e'
    · rw [e] at e'
      simp only [Option.some.injEq, Addr.mk.injEq] at e'
      obtain ⟨rfl, rfl, _⟩ := e'
      refine .inr ⟨b, off, e, Nat.lt_of_lt_of_le hb hg.size, fun k hk => ?_⟩
      rw [World.cell?_of_block (a := ⟨b, off + k * 2, none⟩) (hg.block b hb hne), World.cell?_of_block (a := ⟨b, off + k * 2 + 1, none⟩) (hg.block b hb hne)]
      exact hc k hk

/-- v is a row of the call's own, of the numbers R. -/
def OwnNums (base : Nat) (w : World) (v : Value) (R : List Nm) : Prop := w.ownsRow base 27 2 v R.length (numCells R) ∧ ∀ x ∈ R, LimbsAt w x.ao x.cap x.L ∧ Av v.ownBlock x
/-- v is a row of the call's own, of the rows M. -/
def OwnRows (base : Nat) (w : World) (v : Value) (M : List Rw) : Prop := w.ownsRow base 87 1 v M.length (M.map Rw.v) ∧ ∀ r ∈ M, NumsAt w r.ao r.cap r.R ∧ AvR v.ownBlock r

theorem length_numCells (R : List Nm) : (numCells R).length = R.length * 2 := by
  induction R with
  | nil => rfl
  | cons x R ih => simp only [numCells, List.flatMap_cons, List.length_append, List.length_cons, List.length_nil] at ih ⊢; rw [show (List.flatMap (fun x => [Value.bool x.neg, Value.slice x.ao x.L.length x.cap]) R).length = R.length * 2 from ih]; omega
theorem numCells_get : ∀ (R : List Nm) (k : Nat), k < R.length → (numCells R)[k * 2]? = some (.bool (nmAt R k).neg) ∧ (numCells R)[k * 2 + 1]? = some (.slice (nmAt R k).ao (nmAt R k).L.length (nmAt R k).cap)
  | x :: R, 0, _ => by simp [numCells, nmAt]
  | x :: R, k + 1, h => by
    have := numCells_get R k (by simpa using h)
    have e : numCells (x :: R) = .bool x.neg :: .slice x.ao x.L.length x.cap :: numCells R := rfl
    rw [e, show (k + 1) * 2 = k * 2 + 1 + 1 by omega]
    simpa [nmAt] using this

theorem OwnNums.start (w : World) (base : Nat) (hb : base ≤ w.heap.size) : OwnNums base (w.alloc (.cells #[] 27)) (.slice (some ⟨w.heap.size, 0, none⟩) 0 0) [] :=
  ⟨World.ownsRow_made w #[] 0 hb (by simp [maxLen]) (by simp), by simp⟩
theorem OwnRows.start (w : World) (base : Nat) (hb : base ≤ w.heap.size) : OwnRows base (w.alloc (.cells #[] 87)) (.slice (some ⟨w.heap.size, 0, none⟩) 0 0) [] :=
  ⟨World.ownsRow_made w #[] 0 hb (by simp [maxLen]) (by simp), by simp⟩

theorem OwnNums.lt {base : Nat} {w : World} {v : Value} {R : List Nm} (h : OwnNums base w v R) : ∀ k, v.ownBlock = some k → base ≤ k ∧ k < w.heap.size := h.1.lt
theorem OwnRows.lt {base : Nat} {w : World} {v : Value} {M : List Rw} (h : OwnRows base w v M) : ∀ k, v.ownBlock = some k → base ≤ k ∧ k < w.heap.size := h.1.lt

/-- What grows leaves a row alone that lies elsewhere. -/
theorem ownsRow_grown {w w' : World} {base e size n : Nat} {v : Value} {xs : List Value} {g : Option Nat} (h : w.ownsRow base e size v n xs) (hg : w.grownBy w' g) (hne : ∀ k, v.ownBlock = some k → some k ≠ g) : w'.ownsRow base e size v n xs := by
  refine ⟨h.1, ?_⟩
  rcases h.2 with h | ⟨k, cap, cur, hv, hb, hh, hr⟩
  · exact .inl h
  · have hk : k < w.heap.size := (Array.getElem?_eq_some_iff.1 hh).1
    exact .inr ⟨k, cap, cur, hv, hb, (hg.block k hk (hne k (by rw [hv]; rfl))).trans hh, hr⟩
theorem OwnNums.below {base : Nat} {w w' : World} {v : Value} {R : List Nm} (h : OwnNums base w v R) (hb : Below w.heap.size w w') : OwnNums base w' v R :=
  ⟨ownsRow_grown h.1 ⟨hb.os, hb.tape, hb.output, hb.size, fun k hk _ => hb.block k hk⟩ (fun k _ => by simp : ∀ k, v.ownBlock = some k → some k ≠ none), fun x hx => ⟨((h.2 x hx).1).below hb, (h.2 x hx).2⟩⟩
theorem OwnRows.below {base : Nat} {w w' : World} {v : Value} {M : List Rw} (h : OwnRows base w v M) (hb : Below w.heap.size w w') : OwnRows base w' v M :=
  ⟨ownsRow_grown h.1 ⟨hb.os, hb.tape, hb.output, hb.size, fun k hk _ => hb.block k hk⟩ (fun k _ => by simp : ∀ k, v.ownBlock = some k → some k ≠ none), fun x hx => ⟨((h.2 x hx).1).below hb, (h.2 x hx).2⟩⟩
/-- .. and a row of rows, where another row grows that it does not use. -/
theorem OwnRows.grown {base : Nat} {w w' : World} {v : Value} {M : List Rw} {g : Option Nat} (h : OwnRows base w v M) (hg : w.grownBy w' g) (hne : ∀ k, v.ownBlock = some k → some k ≠ g) (hav : ∀ r ∈ M, AvR g r) : OwnRows base w' v M :=
  ⟨ownsRow_grown h.1 hg hne, fun r hr => ⟨((h.2 r hr).1).grownAv (hav r hr) hg, (h.2 r hr).2⟩⟩

/-- What is read there. -/
theorem OwnNums.nums {base : Nat} {w : World} {v : Value} {R : List Nm} (h : OwnNums base w v R) : ∃ ao cap, v = .slice ao R.length cap ∧ NumsAt w ao cap R ∧ NewAt base ao (R.map (fun _ => 0)) := by
  rcases h.1.2 with ⟨hv, h0⟩ | ⟨g, cap, cur, hv, hg, hh, hc, hm, hs, ht⟩
  · have : R = [] := List.length_eq_zero_iff.1 h0
    subst this
    exact ⟨none, 0, hv, ⟨by simp, by simp, .inl rfl⟩, .inl rfl⟩
  · refine ⟨some ⟨g, 0, none⟩, cap, hv, ⟨hc, fun x hx => (h.2 x hx).1, .inr ⟨g, 0, rfl, (Array.getElem?_eq_some_iff.1 hh).1, fun k hk => ?_⟩⟩, .inr ⟨g, 0, rfl, hg⟩⟩
    obtain ⟨q1, q2⟩ := numCells_get R k hk
    rw [← ht, List.getElem?_take] at q1 q2
    rw [if_pos (by omega)] at q1 q2
    rw [cell_of_row w g _ _ _ _ hh, cell_of_row w g _ _ _ _ hh, Nat.zero_add]
    simp only [Array.getElem?_toList] at q1 q2
    exact ⟨q1, q2⟩
theorem OwnRows.mat {base : Nat} {w : World} {v : Value} {M : List Rw} (h : OwnRows base w v M) : ∃ ao cap, v = .slice ao M.length cap ∧ MatAt w ao cap M ∧ NewAt base ao (M.map (fun _ => 0)) := by
  rcases h.1.2 with ⟨hv, h0⟩ | ⟨g, cap, cur, hv, hg, hh, hc, hm, hs, ht⟩
  · have : M = [] := List.length_eq_zero_iff.1 h0
    subst this
    exact ⟨none, 0, hv, ⟨by simp, by simp, .inl rfl⟩, .inl rfl⟩
  · refine ⟨some ⟨g, 0, none⟩, cap, hv, ⟨hc, fun x hx => (h.2 x hx).1, .inr ⟨g, 0, rfl, (Array.getElem?_eq_some_iff.1 hh).1, fun i hi => ?_⟩⟩, .inr ⟨g, 0, rfl, hg⟩⟩
    have q1 : (M.map Rw.v)[i]? = some (rwAt M i).v := by
      rw [List.getElem?_map]
      unfold rwAt
      rw [List.getElem?_eq_getElem hi]; rfl
    rw [← ht, List.getElem?_take, if_pos (by omega)] at q1
    rw [cell_of_row w g _ _ _ _ hh, Nat.zero_add]
    simpa using q1

end Go.Proofs.YtfnnbkclnflpfaaGreatDoor

