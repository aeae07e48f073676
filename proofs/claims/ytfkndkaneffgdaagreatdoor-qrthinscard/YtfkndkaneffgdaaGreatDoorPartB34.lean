/- Part 34 of the texts. -/
import Derived.Test.YtfkndkaneffgdaaGreatDoorPartB33
import Derived.Test.YtfkndkaneffgdaaGreatDoorPartB31
import Derived.Test.YtfkndkaneffgdaaGreatDoorPartB16
import Derived.Test.YtfkndkaneffgdaaGreatDoorPartB30
import Derived.Test.YtfkndkaneffgdaaGreatDoorPartB29
import Derived.Test.YtfkndkaneffgdaaGreatDoorPartB26
import Derived.Test.YtfkndkaneffgdaaGreatDoorPartB25
import Derived.Test.YtfkndkaneffgdaaGreatDoorPartB24
import Derived.Test.YtfkndkaneffgdaaGreatDoorPartB20
import Derived.Test.YtfkndkaneffgdaaGreatDoorPartB17
import Derived.Test.YtfkndkaneffgdaaGreatDoorPartB18
import Derived.Deep.Cut
import Derived.BigQuiet
import Derived.Maps.Own
import Derived.Maps.OwnOps
import Derived.Maps.OwnSet
import Derived.DeepKeys4
import Derived.Test.YtfkndkaneffgdaaGreatDoorPartB10
import Derived.WalkSmall
import Derived.Test.YtfkndkaneffgdaaGreatDoorPartB09
import Derived.Lib.BitFns
import Derived.Test.YtfkndkaneffgdaaGreatDoorPartB08
import Derived.Test.YtfkndkaneffgdaaGreatDoorPartB01
import Derived.OwnWalk
import Derived.Test.YtfkndkaneffgdaaGreatDoorPartB05
import Derived.Test.YtfkndkaneffgdaaGreatDoorPartB02
import Derived.Test.YtfkndkaneffgdaaGreatDoorPartB07
import Derived.Test.YtfkndkaneffgdaaGreatDoorPartB32
import Derived.Test.YtfkndkaneffgdaaGreatDoorPartB28
/- A row of numbers in a block of the call's own, number by number overwritten (for ExactSums). -/
namespace Go.Proofs.YtfkndkaneffgdaaGreatDoor
open Go.RowKit

theorem numCells_set : ∀ (S : List Nm) (k : Nat) (x : Nm), numCells (S.set k x) = ((numCells S).set (k * 2) (.bool x.neg)).set (k * 2 + 1) (.slice x.ao x.L.length x.cap)
  | [], k, x => by simp [numCells]
  | y :: S, 0, x => rfl
  | y :: S, k + 1, x => by
    have ih := numCells_set S k x
    have e : ∀ z T, numCells (z :: T) = .bool z.neg :: .slice z.ao z.L.length z.cap :: numCells T := fun _ _ => rfl
    rw [List.set_cons_succ, e, e, ih, show (k + 1) * 2 = k * 2 + 1 + 1 by omega]
    rfl

theorem numCells_isBS (S : List Nm) : ∀ (j : Nat) (v : Value), (numCells S)[j]? = some v → isBS v = true := by
  intro j v h
  have hm := List.mem_of_getElem? h
  unfold numCells at hm
  obtain ⟨x, _, hx⟩ := List.mem_flatMap.1 hm
  simp at hx
  rcases hx with rfl | rfl <;> rfl

/-- Block g holds just the numbers S. -/
def SumAt (w : World) (g : Nat) (S : List Nm) : Prop := w.heap[g]? = some (.cells (numCells S).toArray 107 (0, 0))

theorem SumAt.free {w : World} {g : Nat} {S : List Nm} (h : SumAt w g S) (j : Nat) : w.frozen? ⟨g, j, none⟩ = false := frozen_of_row w g j _ _ h
theorem SumAt.lt {w : World} {g : Nat} {S : List Nm} (h : SumAt w g S) : g < w.heap.size := (Array.getElem?_eq_some_iff.1 h).1
theorem SumAt.below {w w' : World} {g B : Nat} {S : List Nm} (h : SumAt w g S) (hb : Below B w w') (hg : g < B) : SumAt w' g S := (hb.block g hg).trans h
theorem SumAt.cells {w : World} {g : Nat} {S : List Nm} (h : SumAt w g S) {k : Nat} (hk : k < S.length) :
    w.cell? ⟨g, k * 2, none⟩ = some (.bool (nmAt S k).neg) ∧ w.cell? ⟨g, k * 2 + 1, none⟩ = some (.slice (nmAt S k).ao (nmAt S k).L.length (nmAt S k).cap) := by
  rw [cell_of_row w g _ _ _ _ h, cell_of_row w g _ _ _ _ h]
  simpa using numCells_get S k hk
theorem SumAt.set {w : World} {g : Nat} {S : List Nm} (h : SumAt w g S) (k : Nat) (x : Nm) : SumAt ((w.setCell ⟨g, k * 2, none⟩ (.bool x.neg)).setCell ⟨g, k * 2 + 1, none⟩ (.slice x.ao x.L.length x.cap)) g (S.set k x) := by
  unfold SumAt
  rw [heap_setCell_same _ g _ _ _ _ (heap_setCell_same w g _ _ _ _ h), numCells_set]
  simp
/-- Numbers stay: their limbs are no bools and no slices. -/
theorem LimbsAt.sum {w : World} {ao : Option Addr} {cap g : Nat} {L : List Nat} {S : List Nm} (h : LimbsAt w ao cap L) (ha : SumAt w g S) (i j : Nat) (u u' : Value) : LimbsAt ((w.setCell ⟨g, i, none⟩ u).setCell ⟨g, j, none⟩ u') ao cap L := by
  refine ⟨h.1, h.2.1, ?_⟩
  rcases h.2.2 with h0 | ⟨c, off, h1, h2, h3⟩
  · exact .inl h0
  · by_cases hL : L = []
    · exact .inl hL
    have hc : c ≠ g := by
      rintro rfl
      have h4 := h3 0 (List.length_pos_iff.2 hL)
      rw [cell_of_row w c _ _ _ _ ha] at h4
      have := numCells_isBS S (off + 0) _ (by simpa using h4)
      simp [isBS] at this
    refine .inr ⟨c, off, h1, by simpa [World.setCell] using h2, fun i' hi' => ?_⟩
    rw [cell_setCell_other _ _ _ _ (show c ≠ g from hc), cell_setCell_other _ _ _ _ (show c ≠ g from hc)]
    exact h3 i' hi'

/-- Out of the law on 'make'. -/
theorem SumAt.made {w : World} {base g n : Nat} (h : w.ownsRow base 107 2 (.slice (some ⟨g, 0, none⟩) n n) n (madeCells (Value.agg #[.bool false, .slice none 0 0]).cells (n * 2)).toList) : SumAt w g (List.replicate n Nm.nil) := by
  rcases h.2 with ⟨h', _⟩ | ⟨g', cap', cur, h', _, hg, _, _, hs, htake⟩
  · simp at h'
  · simp only [Value.slice.injEq, Option.some.injEq, Addr.mk.injEq, and_true, true_and] at h'
    obtain ⟨rfl, rfl⟩ := h'
    unfold SumAt
    rw [hg]
    rw [List.take_of_length_le (by simp [hs])] at htake
    have : cur = (numCells (List.replicate n Nm.nil)).toArray := by
      apply Array.toList_inj.1
      rw [htake]
      have hl : (numCells (List.replicate n Nm.nil)).length = n * 2 := by rw [length_numCells]; simp
      refine List.ext_getElem? fun i => ?_
      rcases Nat.lt_or_ge i (n * 2) with hi | hi
      · have hk : i / 2 < (List.replicate n Nm.nil).length := by simp; omega
        obtain ⟨q1, q2⟩ := numCells_get (List.replicate n Nm.nil) (i / 2) hk
        have e : nmAt (List.replicate n Nm.nil) (i / 2) = Nm.nil := by unfold nmAt; rw [List.getElem?_replicate]; split <;> rfl
        rw [e] at q1 q2
        rcases Nat.mod_two_eq_zero_or_one i with hm | hm
        · rw [show i / 2 * 2 = i by omega] at q1
          show _ = (numCells (List.replicate n Nm.nil))[i]?
          rw [q1]
          simp [madeCells, Value.cells, hm, hi, Nm.nil]
        · rw [show i / 2 * 2 + 1 = i by omega] at q2
          show _ = (numCells (List.replicate n Nm.nil))[i]?
          rw [q2]
          simp [madeCells, Value.cells, hm, hi, Nm.nil]
      · rw [List.getElem?_eq_none (by simpa [madeCells] using hi), List.getElem?_eq_none (by simpa [hl] using hi)]
    rw [this]
end Go.Proofs.YtfkndkaneffgdaaGreatDoor

/- Package certify: Check, checkProduct. -/
namespace Go.Proofs.YtfkndkaneffgdaaGreatDoor
open Go.RowKit
attribute [local go_sem ↓] Go.wp_at_zero Go.wp_at_succ

/-- What Check answers. -/
def ckE (r c : Int) (I : List Int) : Int := if okB r c I.length = true then (if fnK I I.length = true then 0 else 4) else 1

set_option maxRecDepth 20000 in
set_option maxHeartbeats 4000000 in
theorem ccheck_any (r c : Int) (ao : Option Addr) (cap : Nat) (I : List Int) (w : World) (hI : BitsAt w ao cap I) (hn : I.length ≤ 35184372088830) :
    Calls Tryz.prog 21 #[.agg #[.int .i64 r, .int .i64 c, .slice ao I.length cap]] w fun e w' => e = .returned (.int .i64 (ckE r c I)) ∧ Below w.heap.size w w' := by
  have HC := hide (fun w' => mcheck_any r c ao I.length cap w' hn)
  have b0 := below_alloc9 w (.cells #[.int .i64 r, .int .i64 c, .slice ao I.length cap] 24)
  have B0 := hide b0; have X0 := hide (BoxM.new w (.int .i64 r) (.int .i64 c) (.slice ao I.length cap)); have HI := hide hI
  clear b0 hI
  cases ho : okB r c I.length
  · rw [ho] at HC
    have e : ckE r c I = 1 := by unfold ckE; rw [ho]; rfl
    rw [e]
    rw [if_neg (by decide)] at HC
    clear e ho
    go_enter Tryz.func21, Tryz.ntmps21
    go_wp2_with fail
    refine (unhide HC _).mono ?_
    rintro e w1 ⟨rfl, hb1⟩
    clear HC
    go_wp2
    go_ret
    exact ⟨rfl, (unhide B0).trans (hb1.mono (unhide B0).size)⟩
  · rw [ho] at HC
    rw [if_pos rfl] at HC
    have e : ckE r c I = if fnK I I.length = true then 0 else 4 := by unfold ckE; rw [ho]; rfl
    rw [e]
    clear e ho
    obtain ⟨fe, hfe⟩ : ∃ fe : Int, (if fnK I I.length = true then 0 else 4) = fe := ⟨_, rfl⟩
    rw [hfe]
    obtain ⟨n, hnn⟩ : ∃ n, I.length = n := ⟨_, rfl⟩
    have HN := hide hnn
    rw [hnn] at HC B0 X0 hn hfe ⊢
    have FE := hide hfe
    clear hnn hfe
    go_enter Tryz.func21, Tryz.ntmps21
    go_wp2_with fail
    refine (unhide HC _).mono ?_
    rintro e w1 ⟨rfl, hb1⟩
    have B1 := hide ((unhide B0).trans (hb1.mono (unhide B0).size)); have X1 := hide ((unhide X0).all hb1)
    clear HC B0 X0 hb1
    have x2 := (unhide X1).c2
    go_wp2_with fail
    go_loopw [13] (fun i wr => ∃ k : Nat, k ≤ n ∧ i = .int .i64 k ∧ Hid (Below w1.heap.size w1 wr) ∧ Hid (fnK I k = true)) (fun i _ => n - (intOf i).toNat)
    case atStart => exact ⟨0, Nat.zero_le _, rfl, Below.refl _ _, rfl⟩
    case round =>
      clear x2
      obtain ⟨k, hk, rfl, hB, hF⟩ := hrel
      have x2 := ((unhide X1).all (unhide hB)).c2
      by_cases hlt : k < n
      · have hkI : (k : Int) < (n : Int) := by omega
        have BW := hide ((unhide B1).trans ((unhide hB).mono (unhide B1).size))
        obtain ⟨b, off, hao, hb, hc⟩ := ((unhide HI).below (unhide BW)).ne (by rw [unhide HN]; omega)
        have hck := hc k (by rw [unhide HN]; exact hlt)
        have x64 := (unhide HI).lt k
        have CF := hide (fun w' => sfinite_any (atB I k) w' x64)
        have NX := hide (show fnK I (k + 1) = (fnK I k && fFin (atB I k)) from rfl)
        subst hao
        clear hc x64 hb
        cases hf : fFin (atB I k)
        · rw [hf] at CF NX
          have e : fnK I n = false := by
            cases h : fnK I n
            · rfl
            · have := fnK_down I n (k + 1) (by omega) h
              rw [unhide NX, Bool.and_false] at this
              cases this
          have E4 := hide (show (4 : Int) = fe from by rw [← unhide FE, if_neg (by rw [e]; decide)])
          clear e NX hf
          generalize atB I k = x at *
          go_wp2_with fail
          refine (unhide CF _).mono ?_
          rintro e w3 ⟨rfl, hb3⟩
          have BE := hide ((unhide BW).trans (hb3.mono (unhide BW).size))
          clear CF hb3 hck x2
          go_wp2
          go_ret
          exact ⟨ret_int (unhide E4), unhide BE⟩
        · rw [hf] at CF NX
          rw [unhide hF, Bool.true_and] at NX
          clear hf
          generalize atB I k = x at *
          go_wp2_with fail
          refine (unhide CF _).mono ?_
          rintro e w3 ⟨rfl, hb3⟩
          have BE := hide ((unhide hB).trans (hb3.mono (unhide hB).size))
          clear CF hb3 hck x2
          go_wp2
          go_round
          case rel => exact ⟨k + 1, by omega, by go_num, BE, NX⟩
          case measure => simp [intOf]; omega
      · have hkk : k = n := by omega
        subst hkk
        have E0 := hide (show (0 : Int) = fe from by rw [← unhide FE, if_pos (unhide hF)])
        have BE := hide ((unhide B1).trans ((unhide hB).mono (unhide B1).size))
        go_wp2
        go_ret
        exact ⟨ret_int (unhide E0), unhide BE⟩

end Go.Proofs.YtfkndkaneffgdaaGreatDoor

/- The mirror of a vector in the document's order; what it leaves. Ahead of stage 13. -/
namespace Go.Proofs.YtfkndkaneffgdaaGreatDoor

/-- Are all noughts? -/
def ngt (xs : List Nat) : Bool := xs.all (fun x => decide (fK x = 0))
/-- The sign of the first number that is no nought. -/
def ldS : List Nat → Bool
  | [] => false
  | x :: xs => if fK x = 0 then ldS xs else fS x
def hmB (a : Nat) (xs : List Nat) : Nat := if ldS (a :: xs) = true then nrV (a :: xs) else fN (nrV (a :: xs))
def hmD (a : Nat) (xs : List Nat) : Nat := aV a (fN (hmB a xs))
/-- The mirror's beta, tau and v; is there one? -/
def mrB : List Nat → Nat
  | [] => 0
  | a :: xs => if ngt xs = true then a else hmB a xs
def mrT : List Nat → Nat
  | [] => 0
  | a :: xs => if ngt xs = true then 0 else dV (aV (hmB a xs) (fN a)) (hmB a xs)
def mrV : List Nat → List Nat
  | [] => []
  | a :: xs => 4607182418800017408 :: xs.map (fun x => if ngt xs = true then 0 else dV x (hmD a xs))
def mrK : List Nat → Bool
  | [] => true
  | a :: xs => ngt xs || (fFin (hmB a xs) && fFin (hmD a xs))

theorem toN_mxL (xs : List Nat) : toN (mxL xs) = xs := by
  unfold toN mxL
  rw [List.map_map]
  exact List.map_id'' (fun x => by simp) xs
theorem nrV_lt (xs : List Nat) : nrV xs < 18446744073709551616 := by
  have := nmV_lt (mxL xs)
  rwa [nmV_nrV, toN_mxL] at this
theorem hmB_lt (a : Nat) (xs : List Nat) : hmB a xs < 18446744073709551616 := by
  unfold hmB
  split
  · exact nrV_lt _
  · exact fN_lt _ (nrV_lt _)
theorem hmD_lt (a : Nat) (xs : List Nat) (ha : a < 18446744073709551616) : hmD a xs < 18446744073709551616 := aV_lt _ _ ha (fN_lt _ (hmB_lt _ _))
theorem mrB_lt (xs : List Nat) (h : ∀ x ∈ xs, x < 18446744073709551616) : mrB xs < 18446744073709551616 := by
  match xs with
  | [] => decide
  | a :: xs =>
    show (if ngt xs = true then a else hmB a xs) < _
    split
    · exact h a List.mem_cons_self
    · exact hmB_lt _ _
theorem mrT_lt (xs : List Nat) : mrT xs < 18446744073709551616 := by
  match xs with
  | [] => decide
  | a :: xs =>
    show (if ngt xs = true then 0 else dV (aV (hmB a xs) (fN a)) (hmB a xs)) < _
    split
    · decide
    · exact dV_lt _ _
theorem mrV_len (xs : List Nat) : (mrV xs).length = xs.length := by
  match xs with
  | [] => rfl
  | a :: xs => simp [mrV]
theorem ngt_true {xs : List Nat} (h : ngt xs = true) : ∀ x ∈ xs, fK x = 0 := fun x hx => of_decide_eq_true (List.all_eq_true.1 h x hx)
end Go.Proofs.YtfkndkaneffgdaaGreatDoor

/- A matrix mirrored, column by column; its square. Ahead of stage 13. -/
namespace Go.Proofs.YtfkndkaneffgdaaGreatDoor

/-- A column's numbers from row i on; mirrored; a matrix with its columns from k on mirrored. -/
def colL (c : Nat) (S : List Nat) (i n q : Nat) : List Nat := (List.range n).map (fun j => elM c S (i + j) q)
def apL (c : Nat) (S : List Nat) (i q : Nat) (vs : List Nat) (tau : Nat) : List Nat := apV (mV tau (dtV 0 vs (colL c S i vs.length q))) vs (colL c S i vs.length q)
def apM (r c : Nat) (S : List Nat) (i k : Nat) (vs : List Nat) (tau : Nat) : List Nat := mkM r c (fun p q => if k ≤ q ∧ i ≤ p ∧ p < i + vs.length then (apL c S i q vs tau).getD (p - i) 0 else elM c S p q)
theorem colL_len (c : Nat) (S : List Nat) (i n q : Nat) : (colL c S i n q).length = n := by simp [colL]
theorem apM_len (r c : Nat) (S : List Nat) (i k : Nat) (vs : List Nat) (tau : Nat) : (apM r c S i k vs tau).length = r * c := mkM_len _ _ _
theorem apV_at (t : Nat) : ∀ (vs ys : List Nat) (j : Nat), vs.length = ys.length → j < vs.length → (apV t vs ys).getD j 0 = aV (ys.getD j 0) (fN (mV t (vs.getD j 0))) := by
  intro vs
  induction vs with
  | nil => intro ys j _ hj; exact absurd hj (Nat.not_lt_zero j)
  | cons v vs ih =>
    intro ys j h hj
    match ys with
    | [] => cases h
    | y :: ys =>
      match j with
      | 0 => rfl
      | j + 1 => exact ih ys j (by simpa using h) (by simpa using hj)
theorem colL_at (c : Nat) (S : List Nat) (i n q : Nat) {j : Nat} (hj : j < n) : (colL c S i n q).getD j 0 = elM c S (i + j) q := by
  simp [colL, List.getD_eq_getElem?_getD, hj]
theorem el_ap (r c : Nat) (S : List Nat) (i k : Nat) (vs : List Nat) (tau : Nat) {p q : Nat} (hp : p < r) (hq : q < c) : elM c (apM r c S i k vs tau) p q = if k ≤ q ∧ i ≤ p ∧ p < i + vs.length then (apL c S i q vs tau).getD (p - i) 0 else elM c S p q := el_mk r c _ hp hq

theorem list_range (L : List Nat) : L = (List.range L.length).map (fun j => L.getD j 0) := by
  refine List.ext_getElem (by simp) (fun j h1 h2 => ?_)
  simp [List.getD_eq_getElem?_getD, h1]
end Go.Proofs.YtfkndkaneffgdaaGreatDoor

/- The reference of layer 10: Eye, In. -/
namespace Go.Proofs.YtfkndkaneffgdaaGreatDoor
open Go.RowKit
attribute [local go_sem ↓] Go.wp_at_zero Go.wp_at_succ

/-- A matrix in a variable's box at g, the result's box at gr. -/
structure LpSt (w wr : World) (g gr p q : Nat) (mo : Option Addr) (mc : Nat) (S : List Nat) : Prop where
  bel : Below w.heap.size w wr
  box : BoxM wr g (.int .i64 p) (.int .i64 q) (.slice mo S.length mc)
  res : BoxM wr gr (.int .i64 0) (.int .i64 0) (.slice none 0 0)
  bits : BitsAt wr mo mc (mxL S)
  ne : gr ≠ g
  lo : w.heap.size ≤ g
theorem LpSt.all {w wr w' : World} {g gr p q : Nat} {mo : Option Addr} {mc : Nat} {S : List Nat} (h : LpSt w wr g gr p q mo mc S) (hb : Below wr.heap.size wr w') : LpSt w w' g gr p q mo mc S :=
  ⟨h.bel.trans (hb.mono h.bel.size), h.box.all hb, h.res.all hb, h.bits.below hb, h.ne, h.lo⟩
theorem LpSt.put {w wr : World} {g gr p q : Nat} {mo : Option Addr} {mc : Nat} {S : List Nat} (h : LpSt w wr g gr p q mo mc S) {no : Option Addr} {nc : Nat} {T : List Nat} (hT : BitsAt wr no nc (mxL T)) :
    LpSt w (((wr.setCell ⟨g, 0, none⟩ (.int .i64 p)).setCell ⟨g, 1, none⟩ (.int .i64 q)).setCell ⟨g, 2, none⟩ (.slice no T.length nc)) g gr p q no nc T :=
  ⟨below_putM h.bel h.lo _ _ _, h.box.put _ _ _, ((h.res.other (p := ⟨g, 0, none⟩) h.ne _).other (p := ⟨g, 1, none⟩) h.ne _).other (p := ⟨g, 2, none⟩) h.ne _, hT.putM h.box _ _ _, h.ne, h.lo⟩

theorem NewM.any {w : World} {r c : Nat} {S : List Nat} {ao : Option Addr} {cap : Nat} (h : BitsAt w ao cap (mxL S)) : NewM 0 w r c S (.agg #[.int .i64 r, .int .i64 c, .slice ao S.length cap]) := by
  refine ⟨ao, cap, rfl, ?_, h⟩
  rcases h.2.2 with e | ⟨b, off, e1, _, _⟩
  · exact .inl e
  · exact .inr ⟨b, off, e1, Nat.zero_le _⟩

/-- The first j ones of Eye. -/
def eyJ (n j : Nat) : List Nat := mkM n n (fun i k => if k = i ∧ i < j then 4607182418800017408 else 0)
theorem eyJ_0 (n : Nat) : eyJ n 0 = List.replicate (n * n) 0 := by
  rw [mkM_noughts]
  exact mkM_congr (fun i k _ _ => if_neg (by omega))
theorem eyJ_set (n j : Nat) (hj : j < n) : (eyJ n j).set (j * n + j) 4607182418800017408 = eyJ n (j + 1) := by
  unfold eyJ
  rw [mkM_set n n _ _ hj hj]
  refine mkM_congr (fun x y _ _ => ?_)
  by_cases h : x = j ∧ y = j
  · rw [if_pos h, if_pos (by omega)]
  · rw [if_neg h]
    by_cases e : y = x ∧ x < j
    · rw [if_pos e, if_pos (by omega)]
    · rw [if_neg e, if_neg (by omega)]
theorem eyJ_all (n : Nat) : eyJ n n = eyM n := mkM_congr (fun i k hi _ => by
  by_cases e : k = i
  · rw [if_pos ⟨e, hi⟩, if_pos e]
  · rw [if_neg (fun h => e h.1), if_neg e])
theorem eyJ_len (n j : Nat) : (eyJ n j).length = n * n := mkM_len _ _ _

set_option maxRecDepth 20000 in
set_option maxHeartbeats 4000000 in
theorem reye_any (n : Nat) (w : World) (hn : n ≤ 6) :
    Calls Tryz.prog 30 #[.int .i64 n] w fun e w' => ∃ v, e = .returned v ∧ NewM 0 w' n n (eyM n) v ∧ Below w.heap.size w w' := by
  have K1 := hide (fun w' => rzeros_any n n w' hn hn)
  have b0 := below_alloc9 w (.cells #[.int .i64 0, .int .i64 0, .slice none 0 0] 24)
  have X0 := BoxM.new w (.int .i64 0) (.int .i64 0) (.slice none 0 0)
  have s0 := size_alloc9 w (.cells #[.int .i64 0, .int .i64 0, .slice none 0 0] 24)
  have HB0 := hide b0; have HX0 := hide X0; have HS0 := hide s0
  clear b0 X0 s0
  go_enter Tryz.func30, Tryz.ntmps30
  go_wp2_with fail
  refine (unhide K1 _).mono ?_
  rintro e w1 ⟨v, rfl, ⟨mo, mc, rfl, nw, qs⟩, hb1⟩
  have ba := below_alloc9 w1 (.cells #[.int .i64 n, .int .i64 n, .slice mo (List.replicate (n * n) 0).length mc] 24)
  have BB := (unhide HB0).trans (hb1.mono (unhide HB0).size)
  have L0 := hide (show LpSt w (w1.alloc (.cells #[.int .i64 n, .int .i64 n, .slice mo (eyJ n 0).length mc] 24)) w1.heap.size w.heap.size n n mo mc (eyJ n 0) from by
    rw [eyJ_0]
    exact ⟨BB.trans (ba.mono BB.size), BoxM.new w1 _ _ _, ((unhide HX0).all hb1).all ba, qs.below ba, by have := hb1.size; rw [unhide HS0] at this; omega, BB.size⟩)
  rw [← eyJ_0]
  clear K1 hb1 ba BB nw qs HB0 HX0 HS0
  go_wp2_with fail
  generalize w1.heap.size = g at *
  go_loopw [4] (fun i wr => ∃ (j : Nat) (no : Option Addr) (nc : Nat), j ≤ n ∧ i = .int .i64 j ∧ Hid (LpSt w wr g w.heap.size n n no nc (eyJ n j))) (fun i _ => n - (intOf i).toNat)
  case atStart => exact ⟨0, mo, mc, Nat.zero_le _, rfl, L0⟩
  case round =>
    clear L0
    obtain ⟨j, no, nc, hj, rfl, hL⟩ := hrel
    have y0 := (unhide hL).box.c0; have y1 := (unhide hL).box.c1; have y2 := (unhide hL).box.c2
    by_cases hlt : j < n
    · have hjI : (j : Int) < (n : Int) := by omega
      have C := hide (rwith_any n n nc j j 4607182418800017408 no (eyJ n j) _ ⟨(unhide hL).bits, eyJ_len n j, hn, hn⟩ hlt hlt (by decide))
      rw [eyJ_set n j hlt, show ((4607182418800017408 : Nat) : Int) = 4607182418800017408 from rfl] at C
      generalize (eyJ n j).length = l at *
      go_wp2_with fail
      refine Calls.mono (unhide C) ?_
      rintro e w2 ⟨v, rfl, ⟨no', nc', rfl, _, q2⟩, hb2⟩
      have L2 := (unhide hL).all hb2
      have f0 := L2.box.free 0; have f1 := L2.box.free 1; have f2 := L2.box.free 2
      have u0 := L2.box.c0; have u1 := L2.box.c1; have u2 := L2.box.c2
      have L3 := hide (L2.put q2)
      clear C hb2 L2 hL y0 y1 y2 q2
      go_wp2_with fail
      go_round
      case rel => exact ⟨j + 1, no', nc', by omega, by go_num, L3⟩
      case measure => simp [intOf]; omega
    · have hjj : j = n := by omega
      subst hjj
      rw [eyJ_all] at hL y2
      have r0 := (unhide hL).res.c0; have r1 := (unhide hL).res.c1; have r2 := (unhide hL).res.c2
      have f0 := (unhide hL).res.free 0; have f1 := (unhide hL).res.free 1; have f2 := (unhide hL).res.free 2
      have XP := (unhide hL).res.put (.int .i64 j) (.int .i64 j) (.slice no (eyM j).length nc)
      have z0 := XP.c0; have z1 := XP.c1; have z2 := XP.c2
      have Q := hide (BitsAt.putM (unhide hL).bits (unhide hL).res (.int .i64 j) (.int .i64 j) (.slice no (eyM j).length nc))
      have BP := hide (below_putM (unhide hL).bel (Nat.le_refl _) (.int .i64 j) (.int .i64 j) (.slice no (eyM j).length nc))
      clear XP hL
      go_wp2
      exact bodyPost_ret (v := .agg #[.int .i64 j, .int .i64 j, .slice no (eyM j).length nc]) (by simp [results, Tryz.results30, go_sem, z0, z1, z2]) rfl ⟨_, rfl, NewM.any (unhide Q), unhide BP⟩

end Go.Proofs.YtfkndkaneffgdaaGreatDoor

