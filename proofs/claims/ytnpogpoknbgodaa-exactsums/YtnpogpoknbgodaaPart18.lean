/- ExactSums holds: of all rows of at most 5 whose right numbers have at most 4 limbs, one row more that is the sum of others, each taken as often as any list of int32s says, adds nothing to exact.Rank's rank, which is at most the rows' and the columns' number; of other rows that the program answers at all; nothing that was there is changed. No condition beyond the row's own. -/
import Derived.Test.YtnpogpoknbgodaaPart16
import Derived.Test.YtnpogpoknbgodaaPart17
import Derived.Test.YtnpogpoknbgodaaPart12
import Derived.Test.YtnpogpoknbgodaaChecked
import Derived.Test.YtnpogpoknbgodaaPart01
import Derived.ProofKit
import Derived.SizedLaws
import Derived.Lib.SmallJoins
import Derived.Test.YtnpogpoknbgodaaPart06
import Derived.Deep.SlicePairs
import Derived.Test.YtnpogpoknbgodaaRows
/- The law ExactSums, walked: where it asks. -/
namespace Go.Proofs.Ytnpogpoknbgodaa
open Go.RowKit
attribute [local go_sem ↓] Go.wp_at_zero Go.wp_at_succ

/-- The int32s T lie at ao. -/
def TsAt (w : World) (ao : Option Addr) (cap : Nat) (T : List Int) : Prop :=
  T.length ≤ cap ∧ (∀ x ∈ T, -2147483648 ≤ x ∧ x ≤ 2147483647) ∧ (T = [] ∨ ∃ b off, ao = some ⟨b, off, none⟩ ∧ b < w.heap.size ∧ ∀ i, i < T.length → w.cell? ⟨b, off + i, none⟩ = some (.int .i32 (T[i]?.getD 0)))

theorem SumI.congr {w w' : World} {g n : Nat} {f f' : Nat → Int} {S : List Nm} (h : SumI w w' g n f S) (e : ∀ q, q < n → f q = f' q) : SumI w w' g n f' S :=
  ⟨h.1, h.2.1, fun k hk => by rw [← e k hk]; exact h.2.2.1 k hk, h.2.2.2.1, h.2.2.2.2⟩

set_option maxHeartbeats 8000000 in
set_option maxRecDepth 20000 in
theorem exactSums_walk (ao : Option Addr) (cap : Nat) (M : List Rw) (to : Option Addr) (tc : Nat) (T : List Int) (w : World) (h : MatAt w ao cap M) (hs : SmallM M) (hT : TsAt w to tc T) (hTl : T.length ≤ 35184372088830) :
    Calls Try.prog 4 #[.slice ao M.length cap, .slice to T.length tc] w fun e w' => e = .returned (.bool true) ∧ Below w.heap.size w w' := by
  by_cases hno : ¬ (litB 4 M = true ∧ mChk M = 0 ∧ M.length ≠ 0 ∧ M.length ≤ 5)
  · exact exactSums_away ao cap M _ w h hs hno
  have hgo := Decidable.not_not.1 hno
  clear hno
  obtain ⟨hlit, h0, hz, h5⟩ := hgo
  have hg := good_of h h0
  have HB4 := hide (fun i c (hi : i < M.length) (hc : c < width M) => lit_bound h hlit hg hi hc)
  obtain ⟨i0, hi0, hz0, hz1, hz2⟩ := info_parts infoWhole
  have CL := hide (fun w' h' => light_any ao cap M 4 w' h' hs)
  have CC := hide (fun w' h' => refCheck_any ao cap M w' h' hs)
  have CR := hide (fun w' h' => rank_any ao cap M w' h' hs)
  rw [hlit] at CL
  rw [h0] at CC
  have HM := hide h
  have hp : 0 < M.length := by omega
  obtain ⟨b, off, rfl, hbb, hc⟩ := h.ne hp
  have hc0 := hc 0 hp
  rw [Nat.add_zero] at hc0
  change _ = some (Value.slice _ (width M) _) at hc0
  have hn6 : width M ≤ 6 := hg.2.1
  obtain ⟨n, hn⟩ : ∃ n, width M = n := ⟨_, rfl⟩
  obtain ⟨ml, hml⟩ : ∃ ml, M.length = ml := ⟨_, rfl⟩
  obtain ⟨tl, htl⟩ : ∃ tl, T.length = tl := ⟨_, rfl⟩
  have HL := hide hml; have HN := hide hn; have HTL := hide htl
  rw [hml] at CL CC CR hp h5 ⊢
  rw [htl] at hTl ⊢
  rw [hn] at hc0 hn6 hg HB4 CR
  have hmI : ((ml : Int) == 0) = false := by simp; omega
  have h5I : ¬ (5 : Int) < (ml : Int) := by omega
  have h5D : decide ((5 : Int) < (ml : Int)) = false := decide_eq_false h5I
  have h5N : ¬ 5 < ml := by omega
  have h5E : decide (5 < ml) = false := decide_eq_false h5N
  generalize (rwAt M 0).ao = a0 at *
  generalize (rwAt M 0).cap = c0 at *
  have HCK := hide (fun w' (hw : Below w.heap.size w w') => (show w'.cell? ⟨b, off, none⟩ = some (.slice a0 n c0) by rw [hw.cell (p := ⟨b, off, none⟩) hbb]; exact hc0))
  have hpI : (0 : Int) < (ml : Int) := by omega
  have HC := hide hc
  have H0 := hide h0; have HG := hide hg; have HS := hide hs; have HT := hide hT
  clear h hs hlit h0 hml hn htl hc hc0 hg hT hz
  go_enter Try.func4, Try.ntmps4
  go_wp2_with fail
  refine (unhide CL _ (unhide HM)).mono ?_
  rintro e w1 ⟨rfl, hb1⟩
  have B1 := hide hb1
  clear hb1 CL
  go_wp2_with fail
  refine (unhide CC _ ((unhide HM).below (unhide B1))).mono ?_
  rintro e w2 ⟨rfl, hb2⟩
  have B2 := hide ((unhide B1).trans (hb2.mono (unhide B1).size))
  clear hb2 B1 CC
  have hck := unhide HCK _ (unhide B2)
  have hsz := (unhide B2).size
  go_wp2_with (at_make; refine wpList_make_full _ rfl _ _ 32 rfl w.heap.size 35 i0 (.agg #[.bool false, .slice none 0 0]) 2 Try.underlying32 hi0 hz0 hz1 .i64 .i64 _ _ n rfl rfl rfl rfl (by rw [hz2]; omega) (by unfold maxLen; omega) hsz ?_; intro w3 hown hgrow; have SM := hide (SumI.made (w := w) (SumAt.made hown) hsz (below_of_grown (unhide B2) hgrow hsz (fun m hm => by cases hm))); clear hown hgrow)
  generalize w2.heap.size = g at *
  obtain ⟨tf, htf⟩ : ∃ tf : Nat → Int, tf = fun q => T[q]?.getD 0 := ⟨_, rfl⟩
  have HTF := hide htf
  have HTQ := hide (fun q (hq : q < tl) => (show (tf q).natAbs ≤ 2147483648 by
    rw [htf]
    have hqT : q < T.length := by rw [unhide HTL]; exact hq
    show (T[q]?.getD 0).natAbs ≤ _
    rw [List.getElem?_eq_getElem hqT]
    have := (unhide HT).2.1 _ (List.getElem_mem hqT)
    show (T[q]).natAbs ≤ _
    omega))
  clear htf hck B2 hsz
  go_loopw [6] (fun v wr => ∃ (i : Nat) (S : List Nm), i ≤ ml ∧ i ≤ tl ∧ v = .int .i64 i ∧ Hid (SumI w wr g n (sumRows (valM M) tf i) S)) (fun v _ => ml - (intOf v).toNat)
  case atStart => exact ⟨0, _, Nat.zero_le _, Nat.zero_le _, rfl, SM⟩
  case round =>
    obtain ⟨i, S, hi, hit, rfl, hSI⟩ := hrel
    by_cases hlt : i < ml
    · by_cases hlt2 : i < tl
      · have hiI : (i : Int) < (ml : Int) := by omega
        have hiT : (i : Int) < (tl : Int) := by omega
        have HS2 := hide ((unhide hSI).congr (f' := fun q => if q < 0 then sumRows (valM M) tf (i + 1) q else sumRows (valM M) tf i q) (fun q _ => by simp))
        clear hSI SM
        go_wp2_with fail
        go_loopw [7] (fun v wq => ∃ (c : Nat) (S : List Nm), c ≤ n ∧ v = .int .i64 c ∧ Hid (SumI w wq g n (fun q => if q < c then sumRows (valM M) tf (i + 1) q else sumRows (valM M) tf i q) S)) (fun v _ => n - (intOf v).toNat)
        case atStart => exact ⟨0, S, Nat.zero_le _, rfl, HS2⟩
        case round =>
          obtain ⟨c, S2, hc, rfl, hSJ⟩ := hrel
          by_cases hcl : c < n
          · have hcI : (c : Int) < (n : Int) := by omega
            have hiM : i < M.length := by rw [unhide HL]; exact hlt
            have hiTT : i < T.length := by rw [unhide HTL]; exact hlt2
            have hbw := (unhide hSJ).2.2.2.2
            obtain ⟨tb, toff, rfl, htb, htc⟩ : ∃ tb toff, to = some ⟨tb, toff, none⟩ ∧ tb < w.heap.size ∧ ∀ i, i < T.length → w.cell? ⟨tb, toff + i, none⟩ = some (.int .i32 (T[i]?.getD 0)) := by
              rcases (unhide HT).2.2 with e | e
              · rw [e] at hiTT; simp at hiTT
              · exact e
            obtain ⟨tv, htv⟩ : ∃ tv, T[i]?.getD 0 = tv := ⟨_, rfl⟩
            have htfi : tf i = tv := by rw [unhide HTF]; exact htv
            have htr : -2147483648 ≤ tv ∧ tv ≤ 2147483647 := by
              rw [← htv, List.getElem?_eq_getElem hiTT]
              exact (unhide HT).2.1 _ (List.getElem_mem hiTT)
            have hct := htc i hiTT
            rw [htv] at hct
            have hrl := (unhide HG).2.2.1 i hiM
            have hnum := (unhide HM).nums hiM
            obtain ⟨b1, o1, hao1, hb1, _⟩ := hnum.ne (by omega)
            have hcr := unhide HC i hiM
            rw [hao1] at hcr hnum
            have hright := ((unhide HG).2.2.2 i c hiM hcl).1
            obtain ⟨x, hx⟩ : ∃ x, entry M i c = x := ⟨_, rfl⟩
            rw [hx] at hright
            have hval : valM M i c = sval x.neg x.L := by unfold valM; rw [hx]
            have hbA := unhide HB4 i c hiM hcl
            have hcx := hnum.cells (k := c) (by omega)
            have hlx := hnum.limbs (k := c) (by omega)
            have hx' : nmAt (rwAt M i).R c = x := hx
            rw [hx'] at hcx hlx
            rw [hrl] at hcr
            obtain ⟨y, hy⟩ : ∃ y, nmAt S2 c = y := ⟨_, rfl⟩
            have hyn := (unhide hSJ).2.2.1 c hcl
            have hS2l := (unhide hSJ).1
            rw [hy] at hyn
            simp only [Nat.lt_irrefl, if_false] at hyn
            have hbT : ∀ q, q < i + 1 → (valM M q c).natAbs ≤ 4294967296 ^ 4 ∧ (tf q).natAbs ≤ 2147483648 := fun q hq => ⟨unhide HB4 q c (by rw [unhide HL]; omega) hcl, by
              rw [unhide HTF]
              have hqT : q < T.length := by rw [unhide HTL]; omega
              show (T[q]?.getD 0).natAbs ≤ _
              rw [List.getElem?_eq_getElem hqT]
              have := (unhide HT).2.1 _ (List.getElem_mem hqT)
              show (T[q]).natAbs ≤ _
              omega⟩
            have hs1 : (sumRows (valM M) tf i c).natAbs < 4294967296 ^ 6 := Nat.lt_of_le_of_lt (sumRows_bound (valM M) tf (4294967296 ^ 4) 2147483648 c i (fun q hq => hbT q (by omega))) (small_sum i (by omega))
            have hs2 : (valM M i c * tf i).natAbs < 4294967296 ^ 6 := by
              rw [Int.natAbs_mul, Nat.mul_comm]
              have hq := hbT i (by omega)
              have := Nat.mul_le_mul hq.2 hq.1
              have h6 := small_sum 1 (by omega)
              rw [Nat.one_mul] at h6
              exact Nat.lt_of_le_of_lt this h6
            have hs3 : (tf i).natAbs < TOP := six_TOP (Nat.lt_of_le_of_lt (hbT i (by omega)).2 (by decide))
            have hs4 : (valM M i c).natAbs < TOP := six_TOP (Nat.lt_of_le_of_lt (hbT i (by omega)).1 (by decide))
            have hstep : sumRows (valM M) tf (i + 1) c = sumRows (valM M) tf i c + valM M i c * tf i := by
              show 1 * sumRows (valM M) tf i c + tf i * valM M i c = _
              rw [Int.one_mul, Int.mul_comm]
            have COF := hide (fun w' => refOf_any tv w' (by omega) (by omega))
            have CMUL := hide (fun w' v (h : Below wr.heap.size wr w') (hv : IsNum 0 w' v tv) => by
              have h1 := (hlx.below hbw).below h
              have h2 := right_num h1 hright (NewAt.zero h1)
              rw [← hval] at h2
              rw [← htfi] at hv
              exact refMul_num h2 hv hs4 hs3)
            have CADD := hide (fun w' v (h : Below wr.heap.size wr w') (hv : IsNum 0 w' v (valM M i c * tf i)) => by
              have := refAdd_num0 (hyn.below h).num hv (six_TOP hs1) (six_TOP hs2)
              rw [← hstep] at this
              exact this)
            have HSET := hide (fun w' (z : Nm) (h : Below wr.heap.size wr w') (hz : IsNm w' z (sumRows (valM M) tf (i + 1) c)) =>
              (((unhide hSJ).below h).set (k := c) z hz).congr (f' := fun q => if q < c + 1 then sumRows (valM M) tf (i + 1) q else sumRows (valM M) tf i q) (fun q _ => by
                show (if q = c then _ else if q < c then _ else _) = _
                by_cases e : q = c
                · subst e; rw [if_pos rfl, if_pos (by omega)]
                · rw [if_neg e]
                  by_cases e2 : q < c
                  · rw [if_pos e2, if_pos (by omega)]
                  · rw [if_neg e2, if_neg (by omega)]))
            have HFR := hide (fun w' (h : Below wr.heap.size wr w') => (show w'.frozen? ⟨g, c * 2, none⟩ = false ∧ w'.frozen? ⟨g, c * 2 + 1, none⟩ = false from ⟨((unhide hSJ).below h).2.1.free _, ((unhide hSJ).below h).2.1.free _⟩))
            have hneb : b ≠ g := by have := (unhide hSJ).2.2.2.1; omega
            have hneb1 : b1 ≠ g := by have := (unhide hSJ).2.2.2.1; omega
            have hnetb : tb ≠ g := by have := (unhide hSJ).2.2.2.1; omega
            generalize (rwAt M i).cap = cr at *
            have HK := hide (fun w' (h : Below wr.heap.size wr w') => (show Below wr.heap.size wr w' ∧ w'.cell? ⟨g, c * 2, none⟩ = some (.bool y.neg) ∧ w'.cell? ⟨g, c * 2 + 1, none⟩ = some (.slice y.ao y.L.length y.cap) ∧ w'.cell? ⟨b, off + i, none⟩ = some (.slice (some ⟨b1, o1, none⟩) n cr) ∧ w'.cell? ⟨b1, o1 + c * 2, none⟩ = some (.bool x.neg) ∧ w'.cell? ⟨b1, o1 + c * 2 + 1, none⟩ = some (.slice x.ao x.L.length x.cap) ∧ w'.cell? ⟨tb, toff + i, none⟩ = some (.int .i32 tv) by
              have hh := hbw.trans (h.mono hbw.size)
              have q := ((unhide hSJ).below h).2.1.cells (k := c) (by rw [hS2l]; exact hcl)
              rw [hy] at q
              have hb1' : b1 < w.heap.size := hb1
              refine ⟨h, q.1, q.2, ?_, ?_, ?_, ?_⟩
              · rw [hh.cell (p := ⟨b, off + i, none⟩) hbb]; exact hcr
              · rw [hh.cell (p := ⟨b1, o1 + c * 2, none⟩) hb1']; exact hcx.1
              · rw [hh.cell (p := ⟨b1, o1 + c * 2 + 1, none⟩) hb1']; exact hcx.2
              · rw [hh.cell (p := ⟨tb, toff + i, none⟩) htb]; exact hct))
            have hwt : wrap64 tv = tv := by unfold wrap64; omega
            have hwt2 : IntKind.i64.wrap tv = tv := by simp [IntKind.wrap, IntKind.signed, IntKind.bits]; omega
            obtain ⟨ny, ay, cy, Ly⟩ := y
            obtain ⟨nx, ax, cx, Lx⟩ := x
            simp only at HK
            clear hs1 hs2 hs3 hs4 hbT hstep hcx hlx hx hx' hright hval hbA hyn hy hcr hnum hrl hao1 hb1 hct htv htfi htc htb hSJ HS2 hbw hS2l hiM hiTT HB4 HG HC
            go_wp2_with fail
            refine at_world (fun W => W = wr) rfl ?_
            rintro W0 e0
            subst e0
            have hB0 : Below W0.heap.size W0 W0.drew := (Below.refl _ _).drew
            have HKS := hide (fun w' h => (unhide HK w' h).2.2.2)
            have HKT := hide (fun w' u u' (h : Below W0.heap.size W0 w') => (show (fun w' => w'.cell? ⟨b, off + i, none⟩ = some (.slice (some ⟨b1, o1, none⟩) n cr) ∧ w'.cell? ⟨b1, o1 + c * 2, none⟩ = some (.bool nx) ∧ w'.cell? ⟨b1, o1 + c * 2 + 1, none⟩ = some (.slice ax Lx.length cx) ∧ w'.cell? ⟨tb, toff + i, none⟩ = some (.int .i32 tv)) ((w'.setCell ⟨g, c * 2, none⟩ u).setCell ⟨g, c * 2 + 1, none⟩ u') by
              obtain ⟨_, _, _, s1, s2, s3, s4⟩ := unhide HK w' h
              have nb : b ≠ g := hneb; have nb1 : b1 ≠ g := hneb1; have ntb : tb ≠ g := hnetb
              refine ⟨?_, ?_, ?_, ?_⟩
              · rw [cell_setCell_other _ _ _ _ (show _ ≠ g from nb), cell_setCell_other _ _ _ _ (show _ ≠ g from nb)]; exact s1
              · rw [cell_setCell_other _ _ _ _ (show _ ≠ g from nb1), cell_setCell_other _ _ _ _ (show _ ≠ g from nb1)]; exact s2
              · rw [cell_setCell_other _ _ _ _ (show _ ≠ g from nb1), cell_setCell_other _ _ _ _ (show _ ≠ g from nb1)]; exact s3
              · rw [cell_setCell_other _ _ _ _ (show _ ≠ g from ntb), cell_setCell_other _ _ _ _ (show _ ≠ g from ntb)]; exact s4
              ))
            refine wp_region_held_drew (S := (fun w' => w'.cell? ⟨b, off + i, none⟩ = some (.slice (some ⟨b1, o1, none⟩) n cr) ∧ w'.cell? ⟨b1, o1 + c * 2, none⟩ = some (.bool nx) ∧ w'.cell? ⟨b1, o1 + c * 2 + 1, none⟩ = some (.slice ax Lx.length cx) ∧ w'.cell? ⟨tb, toff + i, none⟩ = some (.int .i32 tv))) (by kernel_rfl) ?_ (fun hHeld => ?_)
            · exact unhide HKS _ hB0
            refine wpAnyH_take (i := 0) (oi := { dst := some 54, op := Op.move (Operand.tmp 5), type := 32, pos := "law.go:126", after := #[], guard := none }) (v := ?_) rfl (by kernel_rfl) (by kernel_rfl) (by kernel_rfl) (fun _ _ _ h => h) (Or.inl ⟨by rfl, ?_⟩) (by assumption) ?_
            rotate_left
            · ((intro w hSw; (try dsimp only at hSw); go_simp) <;> with_reducible rfl)
            simp only [Act.put, List.setIfInBounds_toArray, List.set_cons_zero, List.set_cons_succ]
            refine wpAnyH_take (i := 1) (oi := { dst := some 55, op := Op.move (Operand.tmp 7), type := 3, pos := "law.go:126", after := #[], guard := none }) (v := ?_) rfl (by kernel_rfl) (by kernel_rfl) (by kernel_rfl) (fun _ _ _ h => h) (Or.inl ⟨by rfl, ?_⟩) (by assumption) ?_
            rotate_left
            · ((intro w hSw; (try dsimp only at hSw); go_simp) <;> with_reducible rfl)
            simp only [Act.put, List.setIfInBounds_toArray, List.set_cons_zero, List.set_cons_succ]
            refine wpAnyH_take (i := 2) (oi := { dst := some 56, op := Op.move (Operand.tmp 5), type := 32, pos := "law.go:126", after := #[], guard := none }) (v := ?_) rfl (by kernel_rfl) (by kernel_rfl) (by kernel_rfl) (fun _ _ _ h => h) (Or.inl ⟨by rfl, ?_⟩) (by assumption) ?_
            rotate_left
            · ((intro w hSw; (try dsimp only at hSw); go_simp) <;> with_reducible rfl)
            simp only [Act.put, List.setIfInBounds_toArray, List.set_cons_zero, List.set_cons_succ]
            refine wpAnyH_take (i := 3) (oi := { dst := some 57, op := Op.move (Operand.tmp 7), type := 3, pos := "law.go:126", after := #[], guard := none }) (v := ?_) rfl (by kernel_rfl) (by kernel_rfl) (by kernel_rfl) (fun _ _ _ h => h) (Or.inl ⟨by rfl, ?_⟩) (by assumption) ?_
            rotate_left
            · ((intro w hSw; (try dsimp only at hSw); go_simp) <;> with_reducible rfl)
            simp only [Act.put, List.setIfInBounds_toArray, List.set_cons_zero, List.set_cons_succ]
            refine wpAnyH_take (i := 4) (oi := { dst := some 58, op := Op.indexAddr 32 (Operand.tmp 56) (Operand.tmp 57), type := 0, pos := "law.go:126", after := #[{ on := 2, ground := Ground.data }, { on := 3, ground := Ground.data }], guard := none }) (v := ?_) rfl (by kernel_rfl) (by kernel_rfl) (by kernel_rfl) (fun _ _ _ h => h) (Or.inl ⟨by rfl, ?_⟩) (by assumption) ?_
            rotate_left
            · ((intro w hSw; (try dsimp only at hSw); go_simp) <;> with_reducible rfl)
            simp only [Act.put, List.setIfInBounds_toArray, List.set_cons_zero, List.set_cons_succ]
            refine wpAnyH_take (i := 6) (oi := { dst := some 60, op := Op.move (Operand.tmp 0), type := 22, pos := "law.go:126", after := #[], guard := none }) (v := ?_) rfl (by kernel_rfl) (by kernel_rfl) (by kernel_rfl) (fun _ _ _ h => h) (Or.inl ⟨by rfl, ?_⟩) (by assumption) ?_
            rotate_left
            · ((intro w hSw; (try dsimp only at hSw); go_simp) <;> with_reducible rfl)
            simp only [Act.put, List.setIfInBounds_toArray, List.set_cons_zero, List.set_cons_succ]
            refine wpAnyH_take (i := 7) (oi := { dst := some 61, op := Op.move (Operand.tmp 6), type := 3, pos := "law.go:126", after := #[], guard := none }) (v := ?_) rfl (by kernel_rfl) (by kernel_rfl) (by kernel_rfl) (fun _ _ _ h => h) (Or.inl ⟨by rfl, ?_⟩) (by assumption) ?_
            rotate_left
            · ((intro w hSw; (try dsimp only at hSw); go_simp) <;> with_reducible rfl)
            simp only [Act.put, List.setIfInBounds_toArray, List.set_cons_zero, List.set_cons_succ]
            refine wpAnyH_take (i := 8) (oi := { dst := some 62, op := Op.indexAddr 22 (Operand.tmp 60) (Operand.tmp 61), type := 0, pos := "law.go:126", after := #[{ on := 6, ground := Ground.data }, { on := 7, ground := Ground.data }], guard := none }) (v := ?_) rfl (by kernel_rfl) (by kernel_rfl) (by kernel_rfl) (fun _ _ _ h => h) (Or.inl ⟨by rfl, ?_⟩) (by assumption) ?_
            rotate_left
            · ((intro w hSw; (try dsimp only at hSw); go_simp) <;> with_reducible rfl)
            simp only [Act.put, List.setIfInBounds_toArray, List.set_cons_zero, List.set_cons_succ]
            refine wpAnyH_take (i := 9) (oi := { dst := some 63, op := Op.load 32 (Operand.tmp 62), type := 32, pos := "law.go:126", after := #[{ on := 8, ground := Ground.data }], guard := none }) (v := ?_) rfl (by kernel_rfl) (by kernel_rfl) (by kernel_rfl) (fun _ _ _ h => h) (Or.inl ⟨by rfl, ?_⟩) (by assumption) ?_
            rotate_left
            · ((intro w hSw; (try dsimp only at hSw); go_simp) <;> with_reducible rfl)
            simp only [Act.put, List.setIfInBounds_toArray, List.set_cons_zero, List.set_cons_succ]
            refine wpAnyH_take (i := 10) (oi := { dst := some 64, op := Op.move (Operand.tmp 7), type := 3, pos := "law.go:126", after := #[], guard := none }) (v := ?_) rfl (by kernel_rfl) (by kernel_rfl) (by kernel_rfl) (fun _ _ _ h => h) (Or.inl ⟨by rfl, ?_⟩) (by assumption) ?_
            rotate_left
            · ((intro w hSw; (try dsimp only at hSw); go_simp) <;> with_reducible rfl)
            simp only [Act.put, List.setIfInBounds_toArray, List.set_cons_zero, List.set_cons_succ]
            refine wpAnyH_take (i := 11) (oi := { dst := some 65, op := Op.indexAddr 32 (Operand.tmp 63) (Operand.tmp 64), type := 0, pos := "law.go:126", after := #[{ on := 9, ground := Ground.data }, { on := 10, ground := Ground.data }], guard := none }) (v := ?_) rfl (by kernel_rfl) (by kernel_rfl) (by kernel_rfl) (fun _ _ _ h => h) (Or.inl ⟨by rfl, ?_⟩) (by assumption) ?_
            rotate_left
            · ((intro w hSw; (try dsimp only at hSw); go_simp) <;> with_reducible rfl)
            simp only [Act.put, List.setIfInBounds_toArray, List.set_cons_zero, List.set_cons_succ]
            refine wpAnyH_take (i := 12) (oi := { dst := some 66, op := Op.load 35 (Operand.tmp 65), type := 35, pos := "law.go:126", after := #[{ on := 11, ground := Ground.data }], guard := none }) (v := ?_) rfl (by kernel_rfl) (by kernel_rfl) (by kernel_rfl) (fun _ _ _ h => h) (Or.inl ⟨by rfl, ?_⟩) (by assumption) ?_
            rotate_left
            · ((intro w hSw; (try dsimp only at hSw); go_simp) <;> with_reducible rfl)
            simp only [Act.put, List.setIfInBounds_toArray, List.set_cons_zero, List.set_cons_succ]
            refine wpAnyH_take (i := 13) (oi := { dst := some 67, op := Op.move (Operand.tmp 1), type := 31, pos := "law.go:126", after := #[], guard := none }) (v := ?_) rfl (by kernel_rfl) (by kernel_rfl) (by kernel_rfl) (fun _ _ _ h => h) (Or.inl ⟨by rfl, ?_⟩) (by assumption) ?_
            rotate_left
            · ((intro w hSw; (try dsimp only at hSw); go_simp) <;> with_reducible rfl)
            simp only [Act.put, List.setIfInBounds_toArray, List.set_cons_zero, List.set_cons_succ]
            refine wpAnyH_take (i := 14) (oi := { dst := some 68, op := Op.move (Operand.tmp 6), type := 3, pos := "law.go:126", after := #[], guard := none }) (v := ?_) rfl (by kernel_rfl) (by kernel_rfl) (by kernel_rfl) (fun _ _ _ h => h) (Or.inl ⟨by rfl, ?_⟩) (by assumption) ?_
            rotate_left
            · ((intro w hSw; (try dsimp only at hSw); go_simp) <;> with_reducible rfl)
            simp only [Act.put, List.setIfInBounds_toArray, List.set_cons_zero, List.set_cons_succ]
            refine wpAnyH_take (i := 15) (oi := { dst := some 69, op := Op.indexAddr 31 (Operand.tmp 67) (Operand.tmp 68), type := 0, pos := "law.go:126", after := #[{ on := 13, ground := Ground.data }, { on := 14, ground := Ground.data }], guard := none }) (v := ?_) rfl (by kernel_rfl) (by kernel_rfl) (by kernel_rfl) (fun _ _ _ h => h) (Or.inl ⟨by rfl, ?_⟩) (by assumption) ?_
            rotate_left
            · ((intro w hSw; (try dsimp only at hSw); go_simp) <;> with_reducible rfl)
            simp only [Act.put, List.setIfInBounds_toArray, List.set_cons_zero, List.set_cons_succ]
            refine wpAnyH_take (i := 16) (oi := { dst := some 70, op := Op.load 21 (Operand.tmp 69), type := 21, pos := "law.go:126", after := #[{ on := 15, ground := Ground.data }], guard := none }) (v := ?_) rfl (by kernel_rfl) (by kernel_rfl) (by kernel_rfl) (fun _ _ _ h => h) (Or.inl ⟨by rfl, ?_⟩) (by assumption) ?_
            rotate_left
            · ((intro w hSw; (try dsimp only at hSw); go_simp) <;> with_reducible rfl)
            simp only [Act.put, List.setIfInBounds_toArray, List.set_cons_zero, List.set_cons_succ]
            refine wpAnyH_take (i := 17) (oi := { dst := some 71, op := Op.convert 21 2 (Operand.tmp 70), type := 2, pos := "law.go:126", after := #[{ on := 16, ground := Ground.data }], guard := none }) (v := ?_) rfl (by kernel_rfl) (by kernel_rfl) (by kernel_rfl) (fun _ _ _ h => h) (Or.inl ⟨by rfl, ?_⟩) (by assumption) ?_
            rotate_left
            · ((intro w hSw; (try dsimp only at hSw); go_simp) <;> with_reducible rfl)
            simp only [Act.put, List.setIfInBounds_toArray, List.set_cons_zero, List.set_cons_succ]
            refine wpAnyH_ready (rs := [5, 18]) (by kernel_rfl) (by simp) ?_
            refine AllReadyH.cons (o := { dst := some 59, op := Op.load 35 (Operand.tmp 58), type := 35, pos := "law.go:126", after := #[{ on := 4, ground := Ground.data }], guard := none }) rfl (fun K hK => ?_) ?_
            · obtain ⟨_, k1, k2, _⟩ := unhide HK _ hB0
              go_simp
              refine hK.out _ _ ?_ (fun hHeld => ?_)
              · exact by assumption
              clear hK K
              clear k1 k2
              refine wpAnyH_ready (rs := [18]) (by kernel_rfl) (by simp) ?_
              refine AllReadyH.cons (o := { dst := some 72, op := Op.call { callee := Callee.value (Operand.func 12), args := #[Operand.tmp 71], argTypes := #[2] }, type := 35, pos := "law.go:126", after := #[{ on := 17, ground := Ground.data }], guard := none }) rfl (fun K hK => ?_) ?_
              · go_simp
                refine (unhide COF _).mono ?_
                rintro e wn ⟨v, rfl, iv, hb1⟩
                have hBn : Below W0.heap.size W0 wn := hB0.trans (hb1.mono hB0.size)
                have IV := hide ((iv.num (by decide)).mono (Nat.zero_le _))
                clear hb1 iv
                go_wp2_with fail
                refine hK.out _ _ ?_ (fun hHeld => ?_)
                · exact unhide HKS _ hBn
                clear hK K
                refine wpAnyH_ready (rs := [19]) (by kernel_rfl) (by simp) ?_
                refine AllReadyH.cons (o := { dst := some 73, op := Op.call { callee := Callee.value (Operand.func 11), args := #[Operand.tmp 66, Operand.tmp 72], argTypes := #[35, 35] }, type := 35, pos := "law.go:126", after := #[{ on := 12, ground := Ground.data }, { on := 18, ground := Ground.data }, { on := 18, ground := Ground.chain }], guard := none }) rfl (fun K hK => ?_) ?_
                · go_simp
                  refine (unhide CMUL _ _ hBn (unhide IV)).mono ?_
                  rintro e wm ⟨v2, rfl, iv2, hb2⟩
                  have hBm : Below W0.heap.size W0 wm := hBn.trans (hb2.mono hBn.size)
                  have IP := hide iv2
                  clear hb2 iv2
                  go_wp2_with fail
                  refine hK.out _ _ ?_ (fun hHeld => ?_)
                  · exact unhide HKS _ hBm
                  clear hK K
                  refine wpAnyH_ready (rs := [20]) (by kernel_rfl) (by simp) ?_
                  refine AllReadyH.cons (o := { dst := some 74, op := Op.call { callee := Callee.value (Operand.func 10), args := #[Operand.tmp 59, Operand.tmp 73], argTypes := #[35, 35] }, type := 35, pos := "law.go:126", after := #[{ on := 5, ground := Ground.data }, { on := 19, ground := Ground.data }, { on := 19, ground := Ground.chain }], guard := none }) rfl (fun K hK => ?_) ?_
                  · go_simp
                    refine (unhide CADD _ _ hBm (unhide IP)).mono ?_
                    rintro e wa ⟨v3, rfl, iv3, hb3⟩
                    have hBa : Below W0.heap.size W0 wa := hBm.trans (hb3.mono hBm.size)
                    obtain ⟨z3, rfl, iz⟩ := iv3.nm
                    have FIN := hide (unhide HSET _ z3 hBa iz)
                    clear hb3 iv3 iz
                    go_wp2_with fail
                    refine hK.out _ _ ?_ (fun hHeld => ?_)
                    · exact unhide HKS _ hBa
                    clear hK K
                    refine wpAnyH_take (i := 21) (oi := { dst := some 75, op := Op.indexAddr 32 (Operand.tmp 54) (Operand.tmp 55), type := 0, pos := "law.go:126", after := #[{ on := 0, ground := Ground.data }, { on := 1, ground := Ground.data }, { on := 0, ground := Ground.phase }, { on := 1, ground := Ground.phase }, { on := 2, ground := Ground.phase }, { on := 3, ground := Ground.phase }, { on := 4, ground := Ground.phase }, { on := 5, ground := Ground.phase }, { on := 6, ground := Ground.phase }, { on := 7, ground := Ground.phase }, { on := 8, ground := Ground.phase }, { on := 9, ground := Ground.phase }, { on := 10, ground := Ground.phase }, { on := 11, ground := Ground.phase }, { on := 12, ground := Ground.phase }, { on := 13, ground := Ground.phase }, { on := 14, ground := Ground.phase }, { on := 15, ground := Ground.phase }, { on := 16, ground := Ground.phase }, { on := 17, ground := Ground.phase }, { on := 18, ground := Ground.phase }, { on := 19, ground := Ground.phase }, { on := 20, ground := Ground.phase }], guard := none }) (v := ?_) rfl (by kernel_rfl) (by kernel_rfl) (by kernel_rfl) (fun _ _ _ h => h) (Or.inl ⟨by rfl, ?_⟩) (by assumption) ?_
                    rotate_left
                    · ((intro w hSw; (try dsimp only at hSw); go_simp) <;> with_reducible rfl)
                    simp only [Act.put, List.setIfInBounds_toArray, List.set_cons_zero, List.set_cons_succ]
                    refine wpAnyH_ready (rs := [22]) (by kernel_rfl) (by simp) ?_
                    refine AllReadyH.cons (o := { dst := none, op := Op.store 35 (Operand.tmp 75) (Operand.tmp 74), type := 0, pos := "law.go:126", after := #[{ on := 21, ground := Ground.data }, { on := 20, ground := Ground.data }, { on := 20, ground := Ground.chain }, { on := 0, ground := Ground.phase }, { on := 1, ground := Ground.phase }, { on := 2, ground := Ground.phase }, { on := 3, ground := Ground.phase }, { on := 4, ground := Ground.phase }, { on := 5, ground := Ground.phase }, { on := 6, ground := Ground.phase }, { on := 7, ground := Ground.phase }, { on := 8, ground := Ground.phase }, { on := 9, ground := Ground.phase }, { on := 10, ground := Ground.phase }, { on := 11, ground := Ground.phase }, { on := 12, ground := Ground.phase }, { on := 13, ground := Ground.phase }, { on := 14, ground := Ground.phase }, { on := 15, ground := Ground.phase }, { on := 16, ground := Ground.phase }, { on := 17, ground := Ground.phase }, { on := 18, ground := Ground.phase }, { on := 19, ground := Ground.phase }, { on := 20, ground := Ground.phase }], guard := none }) rfl (fun K hK => ?_) ?_
                    · obtain ⟨_, k1, k2, _⟩ := unhide HK _ hBa
                      have f0 := (unhide HFR _ hBa).1; have f1 := (unhide HFR _ hBa).2
                      go_simp
                      refine hK.out _ _ ?_ (fun hHeld => ?_)
                      · exact unhide HKT _ _ _ hBa
                      clear hK K
                      clear k1 k2 f0 f1
                      refine wpAnyH_done (by kernel_rfl) ?_ _
                      clear HK HKS HKT HFR HSET COF CMUL CADD IV IP hB0 hBn hBm hBa hHeld
                      go_wp2
                      go_roundw
                      case rel => exact ⟨c + 1, _, by omega, by go_num, FIN⟩
                      case measure => simp [intOf]; omega
                    exact AllReadyH.nil
                  exact AllReadyH.nil
                exact AllReadyH.nil
              exact AllReadyH.nil
            refine AllReadyH.cons (o := { dst := some 72, op := Op.call { callee := Callee.value (Operand.func 12), args := #[Operand.tmp 71], argTypes := #[2] }, type := 35, pos := "law.go:126", after := #[{ on := 17, ground := Ground.data }], guard := none }) rfl (fun K hK => ?_) ?_
            · go_simp
              refine (unhide COF _).mono ?_
              rintro e wn ⟨v, rfl, iv, hb1⟩
              have hBn : Below W0.heap.size W0 wn := hB0.trans (hb1.mono hB0.size)
              have IV := hide ((iv.num (by decide)).mono (Nat.zero_le _))
              clear hb1 iv
              go_wp2_with fail
              refine hK.out _ _ ?_ (fun hHeld => ?_)
              · exact unhide HKS _ hBn
              clear hK K
              refine wpAnyH_ready (rs := [5, 19]) (by kernel_rfl) (by simp) ?_
              refine AllReadyH.cons (o := { dst := some 59, op := Op.load 35 (Operand.tmp 58), type := 35, pos := "law.go:126", after := #[{ on := 4, ground := Ground.data }], guard := none }) rfl (fun K hK => ?_) ?_
              · obtain ⟨_, k1, k2, _⟩ := unhide HK _ hBn
                go_simp
                refine hK.out _ _ ?_ (fun hHeld => ?_)
                · exact by assumption
                clear hK K
                clear k1 k2
                refine wpAnyH_ready (rs := [19]) (by kernel_rfl) (by simp) ?_
                refine AllReadyH.cons (o := { dst := some 73, op := Op.call { callee := Callee.value (Operand.func 11), args := #[Operand.tmp 66, Operand.tmp 72], argTypes := #[35, 35] }, type := 35, pos := "law.go:126", after := #[{ on := 12, ground := Ground.data }, { on := 18, ground := Ground.data }, { on := 18, ground := Ground.chain }], guard := none }) rfl (fun K hK => ?_) ?_
                · go_simp
                  refine (unhide CMUL _ _ hBn (unhide IV)).mono ?_
                  rintro e wm ⟨v2, rfl, iv2, hb2⟩
                  have hBm : Below W0.heap.size W0 wm := hBn.trans (hb2.mono hBn.size)
                  have IP := hide iv2
                  clear hb2 iv2
                  go_wp2_with fail
                  refine hK.out _ _ ?_ (fun hHeld => ?_)
                  · exact unhide HKS _ hBm
                  clear hK K
                  refine wpAnyH_ready (rs := [20]) (by kernel_rfl) (by simp) ?_
                  refine AllReadyH.cons (o := { dst := some 74, op := Op.call { callee := Callee.value (Operand.func 10), args := #[Operand.tmp 59, Operand.tmp 73], argTypes := #[35, 35] }, type := 35, pos := "law.go:126", after := #[{ on := 5, ground := Ground.data }, { on := 19, ground := Ground.data }, { on := 19, ground := Ground.chain }], guard := none }) rfl (fun K hK => ?_) ?_
                  · go_simp
                    refine (unhide CADD _ _ hBm (unhide IP)).mono ?_
                    rintro e wa ⟨v3, rfl, iv3, hb3⟩
                    have hBa : Below W0.heap.size W0 wa := hBm.trans (hb3.mono hBm.size)
                    obtain ⟨z3, rfl, iz⟩ := iv3.nm
                    have FIN := hide (unhide HSET _ z3 hBa iz)
                    clear hb3 iv3 iz
                    go_wp2_with fail
                    refine hK.out _ _ ?_ (fun hHeld => ?_)
                    · exact unhide HKS _ hBa
                    clear hK K
                    refine wpAnyH_take (i := 21) (oi := { dst := some 75, op := Op.indexAddr 32 (Operand.tmp 54) (Operand.tmp 55), type := 0, pos := "law.go:126", after := #[{ on := 0, ground := Ground.data }, { on := 1, ground := Ground.data }, { on := 0, ground := Ground.phase }, { on := 1, ground := Ground.phase }, { on := 2, ground := Ground.phase }, { on := 3, ground := Ground.phase }, { on := 4, ground := Ground.phase }, { on := 5, ground := Ground.phase }, { on := 6, ground := Ground.phase }, { on := 7, ground := Ground.phase }, { on := 8, ground := Ground.phase }, { on := 9, ground := Ground.phase }, { on := 10, ground := Ground.phase }, { on := 11, ground := Ground.phase }, { on := 12, ground := Ground.phase }, { on := 13, ground := Ground.phase }, { on := 14, ground := Ground.phase }, { on := 15, ground := Ground.phase }, { on := 16, ground := Ground.phase }, { on := 17, ground := Ground.phase }, { on := 18, ground := Ground.phase }, { on := 19, ground := Ground.phase }, { on := 20, ground := Ground.phase }], guard := none }) (v := ?_) rfl (by kernel_rfl) (by kernel_rfl) (by kernel_rfl) (fun _ _ _ h => h) (Or.inl ⟨by rfl, ?_⟩) (by assumption) ?_
                    rotate_left
                    · ((intro w hSw; (try dsimp only at hSw); go_simp) <;> with_reducible rfl)
                    simp only [Act.put, List.setIfInBounds_toArray, List.set_cons_zero, List.set_cons_succ]
                    refine wpAnyH_ready (rs := [22]) (by kernel_rfl) (by simp) ?_
                    refine AllReadyH.cons (o := { dst := none, op := Op.store 35 (Operand.tmp 75) (Operand.tmp 74), type := 0, pos := "law.go:126", after := #[{ on := 21, ground := Ground.data }, { on := 20, ground := Ground.data }, { on := 20, ground := Ground.chain }, { on := 0, ground := Ground.phase }, { on := 1, ground := Ground.phase }, { on := 2, ground := Ground.phase }, { on := 3, ground := Ground.phase }, { on := 4, ground := Ground.phase }, { on := 5, ground := Ground.phase }, { on := 6, ground := Ground.phase }, { on := 7, ground := Ground.phase }, { on := 8, ground := Ground.phase }, { on := 9, ground := Ground.phase }, { on := 10, ground := Ground.phase }, { on := 11, ground := Ground.phase }, { on := 12, ground := Ground.phase }, { on := 13, ground := Ground.phase }, { on := 14, ground := Ground.phase }, { on := 15, ground := Ground.phase }, { on := 16, ground := Ground.phase }, { on := 17, ground := Ground.phase }, { on := 18, ground := Ground.phase }, { on := 19, ground := Ground.phase }, { on := 20, ground := Ground.phase }], guard := none }) rfl (fun K hK => ?_) ?_
                    · obtain ⟨_, k1, k2, _⟩ := unhide HK _ hBa
                      have f0 := (unhide HFR _ hBa).1; have f1 := (unhide HFR _ hBa).2
                      go_simp
                      refine hK.out _ _ ?_ (fun hHeld => ?_)
                      · exact unhide HKT _ _ _ hBa
                      clear hK K
                      clear k1 k2 f0 f1
                      refine wpAnyH_done (by kernel_rfl) ?_ _
                      clear HK HKS HKT HFR HSET COF CMUL CADD IV IP hB0 hBn hBm hBa hHeld
                      go_wp2
                      go_roundw
                      case rel => exact ⟨c + 1, _, by omega, by go_num, FIN⟩
                      case measure => simp [intOf]; omega
                    exact AllReadyH.nil
                  exact AllReadyH.nil
                exact AllReadyH.nil
              refine AllReadyH.cons (o := { dst := some 73, op := Op.call { callee := Callee.value (Operand.func 11), args := #[Operand.tmp 66, Operand.tmp 72], argTypes := #[35, 35] }, type := 35, pos := "law.go:126", after := #[{ on := 12, ground := Ground.data }, { on := 18, ground := Ground.data }, { on := 18, ground := Ground.chain }], guard := none }) rfl (fun K hK => ?_) ?_
              · go_simp
                refine (unhide CMUL _ _ hBn (unhide IV)).mono ?_
                rintro e wm ⟨v2, rfl, iv2, hb2⟩
                have hBm : Below W0.heap.size W0 wm := hBn.trans (hb2.mono hBn.size)
                have IP := hide iv2
                clear hb2 iv2
                go_wp2_with fail
                refine hK.out _ _ ?_ (fun hHeld => ?_)
                · exact unhide HKS _ hBm
                clear hK K
                refine wpAnyH_ready (rs := [5]) (by kernel_rfl) (by simp) ?_
                refine AllReadyH.cons (o := { dst := some 59, op := Op.load 35 (Operand.tmp 58), type := 35, pos := "law.go:126", after := #[{ on := 4, ground := Ground.data }], guard := none }) rfl (fun K hK => ?_) ?_
                · obtain ⟨_, k1, k2, _⟩ := unhide HK _ hBm
                  go_simp
                  refine hK.out _ _ ?_ (fun hHeld => ?_)
                  · exact by assumption
                  clear hK K
                  clear k1 k2
                  refine wpAnyH_ready (rs := [20]) (by kernel_rfl) (by simp) ?_
                  refine AllReadyH.cons (o := { dst := some 74, op := Op.call { callee := Callee.value (Operand.func 10), args := #[Operand.tmp 59, Operand.tmp 73], argTypes := #[35, 35] }, type := 35, pos := "law.go:126", after := #[{ on := 5, ground := Ground.data }, { on := 19, ground := Ground.data }, { on := 19, ground := Ground.chain }], guard := none }) rfl (fun K hK => ?_) ?_
                  · go_simp
                    refine (unhide CADD _ _ hBm (unhide IP)).mono ?_
                    rintro e wa ⟨v3, rfl, iv3, hb3⟩
                    have hBa : Below W0.heap.size W0 wa := hBm.trans (hb3.mono hBm.size)
                    obtain ⟨z3, rfl, iz⟩ := iv3.nm
                    have FIN := hide (unhide HSET _ z3 hBa iz)
                    clear hb3 iv3 iz
                    go_wp2_with fail
                    refine hK.out _ _ ?_ (fun hHeld => ?_)
                    · exact unhide HKS _ hBa
                    clear hK K
                    refine wpAnyH_take (i := 21) (oi := { dst := some 75, op := Op.indexAddr 32 (Operand.tmp 54) (Operand.tmp 55), type := 0, pos := "law.go:126", after := #[{ on := 0, ground := Ground.data }, { on := 1, ground := Ground.data }, { on := 0, ground := Ground.phase }, { on := 1, ground := Ground.phase }, { on := 2, ground := Ground.phase }, { on := 3, ground := Ground.phase }, { on := 4, ground := Ground.phase }, { on := 5, ground := Ground.phase }, { on := 6, ground := Ground.phase }, { on := 7, ground := Ground.phase }, { on := 8, ground := Ground.phase }, { on := 9, ground := Ground.phase }, { on := 10, ground := Ground.phase }, { on := 11, ground := Ground.phase }, { on := 12, ground := Ground.phase }, { on := 13, ground := Ground.phase }, { on := 14, ground := Ground.phase }, { on := 15, ground := Ground.phase }, { on := 16, ground := Ground.phase }, { on := 17, ground := Ground.phase }, { on := 18, ground := Ground.phase }, { on := 19, ground := Ground.phase }, { on := 20, ground := Ground.phase }], guard := none }) (v := ?_) rfl (by kernel_rfl) (by kernel_rfl) (by kernel_rfl) (fun _ _ _ h => h) (Or.inl ⟨by rfl, ?_⟩) (by assumption) ?_
                    rotate_left
                    · ((intro w hSw; (try dsimp only at hSw); go_simp) <;> with_reducible rfl)
                    simp only [Act.put, List.setIfInBounds_toArray, List.set_cons_zero, List.set_cons_succ]
                    refine wpAnyH_ready (rs := [22]) (by kernel_rfl) (by simp) ?_
                    refine AllReadyH.cons (o := { dst := none, op := Op.store 35 (Operand.tmp 75) (Operand.tmp 74), type := 0, pos := "law.go:126", after := #[{ on := 21, ground := Ground.data }, { on := 20, ground := Ground.data }, { on := 20, ground := Ground.chain }, { on := 0, ground := Ground.phase }, { on := 1, ground := Ground.phase }, { on := 2, ground := Ground.phase }, { on := 3, ground := Ground.phase }, { on := 4, ground := Ground.phase }, { on := 5, ground := Ground.phase }, { on := 6, ground := Ground.phase }, { on := 7, ground := Ground.phase }, { on := 8, ground := Ground.phase }, { on := 9, ground := Ground.phase }, { on := 10, ground := Ground.phase }, { on := 11, ground := Ground.phase }, { on := 12, ground := Ground.phase }, { on := 13, ground := Ground.phase }, { on := 14, ground := Ground.phase }, { on := 15, ground := Ground.phase }, { on := 16, ground := Ground.phase }, { on := 17, ground := Ground.phase }, { on := 18, ground := Ground.phase }, { on := 19, ground := Ground.phase }, { on := 20, ground := Ground.phase }], guard := none }) rfl (fun K hK => ?_) ?_
                    · obtain ⟨_, k1, k2, _⟩ := unhide HK _ hBa
                      have f0 := (unhide HFR _ hBa).1; have f1 := (unhide HFR _ hBa).2
                      go_simp
                      refine hK.out _ _ ?_ (fun hHeld => ?_)
                      · exact unhide HKT _ _ _ hBa
                      clear hK K
                      clear k1 k2 f0 f1
                      refine wpAnyH_done (by kernel_rfl) ?_ _
                      clear HK HKS HKT HFR HSET COF CMUL CADD IV IP hB0 hBn hBm hBa hHeld
                      go_wp2
                      go_roundw
                      case rel => exact ⟨c + 1, _, by omega, by go_num, FIN⟩
                      case measure => simp [intOf]; omega
                    exact AllReadyH.nil
                  exact AllReadyH.nil
                exact AllReadyH.nil
              exact AllReadyH.nil
            exact AllReadyH.nil
          · have hcn : c = n := by omega
            have hcD : decide ((c : Int) < (n : Int)) = false := decide_eq_false (by omega)
            have hcD' : ¬ (c : Int) < (n : Int) := by omega
            have HSX := hide ((unhide hSJ).congr (f' := sumRows (valM M) tf (i + 1)) (fun q hq => by show (if q < c then _ else _) = _; rw [if_pos (by omega)]))
            clear hSJ HS2 hcn
            go_wp2
            go_roundw
            case rel => exact ⟨i + 1, S2, by omega, by omega, by go_num, HSX⟩
            case measure => simp [intOf]; omega
      · have hti : i = tl := by omega
        have hgI : decide ((i : Int) < (ml : Int)) = true := decide_eq_true (by omega)
        have hgT : decide ((i : Int) < (tl : Int)) = false := decide_eq_false (by omega)
        have hgI' : (i : Int) < (ml : Int) := by omega
        have hgT' : ¬ (i : Int) < (tl : Int) := by omega
        have hbw := (unhide hSI).2.2.2.2
        have SPUT := hide (sums_put (unhide hSI) (unhide H0) (by rw [unhide HL]; omega) (by rw [unhide HL]; exact h5) (unhide HN) (unhide HS) (by rw [unhide HL]; exact hi) hn6 (fun c hc => Nat.lt_of_le_of_lt (sumRows_bound (valM M) tf (4294967296 ^ 4) 2147483648 c i (fun q hq => ⟨unhide HB4 q c (by rw [unhide HL]; omega) hc, unhide HTQ q (by omega)⟩)) (small_sum i (by omega))))
        go_wp2_with fail
        refine (unhide CR _ ((unhide HM).below hbw)).mono ?_
        rintro e w1 ⟨k, rfl, rk, _, hb1⟩
        have RK := hide (rk (unhide H0))
        rw [unhide H0]
        have si1 := (unhide hSI).below hb1
        have hb1w := hbw.trans (hb1.mono hbw.size)
        obtain ⟨j0, hj0, hy0, hy1, hy2⟩ := info_parts infoRow
        have hbA : Below w1.heap.size w1 (w1.alloc (.cells #[] 32)) := (Below.refl _ _).alloc (Nat.le_refl _) _
        have hbS := hb1w.trans (hbA.mono hb1w.size)
        have NEWS := hide (show ∀ j u, (M.map Rw.v)[j]? = some u → (w1.alloc (.cells #[] 32)).cell? ((⟨b, off, none⟩ : Addr).add j) = some u from fun j u hu => by
          rw [List.getElem?_map] at hu
          cases hm : M[j]? with
          | none => rw [hm] at hu; cases hu
          | some r =>
            rw [hm] at hu
            have hjl : j < M.length := (List.getElem?_eq_some_iff.1 hm).1
            have hcj := unhide HC j hjl
            have er : rwAt M j = r := by unfold rwAt; rw [hm]; rfl
            rw [er] at hcj
            rw [show (⟨b, off, none⟩ : Addr).add j = ⟨b, off + j, none⟩ by simp [Addr.add]]
            rw [hbS.cell (p := ⟨b, off + j, none⟩) hbb, hcj]
            exact hu)
        have ONE := hide (show ∀ u ∈ M.map Rw.v, u.oneCell' = true from fun u hu => by
          obtain ⟨r, _, rfl⟩ := List.mem_map.1 hu
          rfl)
        have OWN := hide (show (w1.alloc (.cells #[] 32)).ownsRow w.heap.size 32 1 (.slice (some ⟨w1.heap.size, 0, none⟩) 0 0) 0 [] from (OwnRows.start w1 w.heap.size hb1w.size).1)
        have FIN := hide (fun v' w3 (ho : w3.ownsRow w.heap.size 32 1 v' (0 + ml) ([] ++ M.map Rw.v)) (hg : (w1.alloc (.cells #[] 32)).grownBy w3 (some w1.heap.size)) (hloc : v'.ownBlock = some w1.heap.size ∨ v'.ownBlock = some (w1.alloc (.cells #[] 32)).heap.size) =>
          (show OwnRows w.heap.size w3 v' M ∧ Below w.heap.size w w3 ∧ SumI w w3 g n (sumRows (valM M) tf i) S ∧ AvR v'.ownBlock ⟨some ⟨g, 0, none⟩, n, S⟩ ∧ Below w1.heap.size w1 w3 from by
            have hbw3 := below_of_grown hbS hg hbS.size (fun m hm => by cases hm; exact hb1w.size)
            have hb13 := below_of_grown hbA hg (by simp) (fun m hm => by cases hm; exact Nat.le_refl _)
            refine ⟨OwnRows.copied (by rw [unhide HL]; simpa using ho) (unhide HM).2.1 hbw3, hbw3, si1.below hb13, ?_, hb13⟩
            rcases hloc with e | e
            · rw [e]; exact AvR.new si1.nums (Nat.le_refl _)
            · rw [e]; exact AvR.new si1.nums (by simp)))
        have LN := hide (show (M.map Rw.v).length = ml * 1 by rw [List.length_map, unhide HL]; omega)
        have BS := hide hbS
        have RKN := hide (show IsRank k (valM M) M.length n by rw [unhide HL]; exact unhide RK)
        have hkl := rank_le (unhide RKN)
        have hkm : k ≤ ml := by have := unhide HL; omega
        have hkn : k ≤ n := hkl.2
        have hck0 : ∀ w', Below w.heap.size w w' → w'.cell? ⟨b, off, none⟩ = some (.slice a0 n c0) := unhide HCK
        have HC0 := hide hck0
        clear hbA hbS rk hb1 hb1w hbw si1 hSI RK hkl hck0 HB4 HTQ
        have NXT := hide (fun vA w3 (f3 : OwnRows w.heap.size w3 vA M ∧ Below w.heap.size w w3 ∧ SumI w w3 g n (sumRows (valM M) tf i) S ∧ AvR vA.ownBlock ⟨some ⟨g, 0, none⟩, n, S⟩ ∧ Below w1.heap.size w1 w3) =>
          (show (w3.alloc (.cells #[.slice (some ⟨g, 0, none⟩) n n] 32)).ownsRow w.heap.size 32 1 vA ml (M.map Rw.v) ∧ w.heap.size ≤ (w3.alloc (.cells #[.slice (some ⟨g, 0, none⟩) n n] 32)).heap.size ∧ (∀ v' w5, w5.ownsRow w.heap.size 32 1 v' (ml + 1) (M.map Rw.v ++ [.slice (some ⟨g, 0, none⟩) n n]) → (w3.alloc (.cells #[.slice (some ⟨g, 0, none⟩) n n] 32)).grownBy w5 vA.ownBlock → (v'.ownBlock = vA.ownBlock ∨ v'.ownBlock = some (w3.alloc (.cells #[.slice (some ⟨g, 0, none⟩) n n] 32)).heap.size) → OwnRows w.heap.size w5 v' (M ++ [(⟨some ⟨g, 0, none⟩, n, S⟩ : Rw)]) ∧ Below w.heap.size w w5) from by
            have hbB : Below w3.heap.size w3 (w3.alloc (.cells #[.slice (some ⟨g, 0, none⟩) n n] 32)) := (Below.refl _ _).alloc (Nat.le_refl _) _
            have o4 := f3.1.below hbB
            have bw4 := f3.2.1.trans (hbB.mono f3.2.1.size)
            have hSl : S.length = n := f3.2.2.1.1
            have hrv : (⟨some ⟨g, 0, none⟩, n, S⟩ : Rw).v = .slice (some ⟨g, 0, none⟩) n n := by unfold Rw.v; rw [hSl]
            refine ⟨by have := o4.1; rwa [unhide HL] at this, bw4.size, fun v' w5 ho hg hloc => ⟨o4.snoc (r := ⟨some ⟨g, 0, none⟩, n, S⟩) (f3.2.2.1.nums.below hbB) f3.2.2.2.1 (by rw [unhide HL, hrv]; exact ho) hg hloc, below_of_grown bw4 hg bw4.size (fun m hm => (f3.1.lt m hm).1)⟩⟩))
        go_wp2_with (first | (at_builtin; refine wpList_append_own_at _ rfl _ _ 22 rfl w.heap.size 32 j0 (.slice none 0 0) 1 24 Try.underlying22 hj0 hy0 hy1 hy2 rfl (by decide) _ _ _ rfl (unhide OWN) ⟨b, off, none⟩ ml cap (M.map Rw.v) rfl (unhide LN) (unhide NEWS) (unhide ONE) (by unfold maxLen; omega) (by omega) (unhide BS).size ?_; intro vA w3 hown' hgrow hnil hloc; have N3 := hide (unhide NXT vA w3 (unhide FIN vA w3 hown' hgrow hloc)); clear hown' hgrow hloc hnil OWN FIN NXT) | (at_builtin; refine wpList_append_own_at _ rfl _ _ 22 rfl w.heap.size 32 j0 (.slice none 0 0) 1 24 Try.underlying22 hj0 hy0 hy1 hy2 rfl (by decide) _ _ _ rfl (unhide N3).1 ⟨w3.heap.size, 0, none⟩ 1 1 [.slice (some ⟨g, 0, none⟩) n n] rfl rfl (cell_one_new _ _ _) (fun u hu => by simp at hu; subst hu; rfl) (by unfold maxLen; omega) (by omega) (unhide N3).2.1 ?_; intro vB w5 hown' hgrow _ hloc; have F5 := hide ((unhide N3).2.2 vB w5 hown' hgrow hloc); clear hown' hgrow hloc N3))
        obtain ⟨a5, c5, rfl, m5, _⟩ := (unhide F5).1.mat
        have B5 := hide (unhide F5).2
        have CR5 := hide (rank_any a5 c5 _ w5 m5 (unhide SPUT).1)
        clear m5 F5 BS NEWS LN ONE
        refine Calls.mono (unhide CR5) ?_
        rintro e w6 ⟨k', rfl, rk', _, hb6⟩
        have hkk : k = k' := (unhide SPUT).2.2 k k' (unhide RKN) (rk' (unhide SPUT).2.1)
        subst hkk
        rw [(unhide SPUT).2.1]
        have b6 := (unhide B5).trans (hb6.mono (unhide B5).size)
        have B6 := hide b6
        have hc6 := unhide HC0 _ b6
        have hkmI : (k : Int) ≤ (ml : Int) := by omega
        have hknI : (k : Int) ≤ (n : Int) := by omega
        have g1 : decide (k ≤ ml) = true := decide_eq_true hkm
        have g2 : decide (k ≤ n) = true := decide_eq_true hkn
        clear rk' hb6 b6 B5 CR5 SPUT RKN
        go_wp2_with fail
        refine (awake3_any _).mono ?_
        rintro e w7 ⟨rfl, hb7⟩
        have B7 := hide ((unhide B6).trans (hb7.mono (unhide B6).size))
        clear hb7 B6
        go_wp2
        go_ret
        exact ⟨rfl, unhide B7⟩
    · have hgI : decide ((i : Int) < (ml : Int)) = false := decide_eq_false (by omega)
      have hgI' : ¬ (i : Int) < (ml : Int) := by omega
      have hbw := (unhide hSI).2.2.2.2
      have SPUT := hide (sums_put (unhide hSI) (unhide H0) (by rw [unhide HL]; omega) (by rw [unhide HL]; exact h5) (unhide HN) (unhide HS) (by rw [unhide HL]; exact hi) hn6 (fun c hc => Nat.lt_of_le_of_lt (sumRows_bound (valM M) tf (4294967296 ^ 4) 2147483648 c i (fun q hq => ⟨unhide HB4 q c (by rw [unhide HL]; omega) hc, unhide HTQ q (by omega)⟩)) (small_sum i (by omega))))
      go_wp2_with fail
      refine (unhide CR _ ((unhide HM).below hbw)).mono ?_
      rintro e w1 ⟨k, rfl, rk, _, hb1⟩
      have RK := hide (rk (unhide H0))
      rw [unhide H0]
      have si1 := (unhide hSI).below hb1
      have hb1w := hbw.trans (hb1.mono hbw.size)
      obtain ⟨j0, hj0, hy0, hy1, hy2⟩ := info_parts infoRow
      have hbA : Below w1.heap.size w1 (w1.alloc (.cells #[] 32)) := (Below.refl _ _).alloc (Nat.le_refl _) _
      have hbS := hb1w.trans (hbA.mono hb1w.size)
      have NEWS := hide (show ∀ j u, (M.map Rw.v)[j]? = some u → (w1.alloc (.cells #[] 32)).cell? ((⟨b, off, none⟩ : Addr).add j) = some u from fun j u hu => by
        rw [List.getElem?_map] at hu
        cases hm : M[j]? with
        | none => rw [hm] at hu; cases hu
        | some r =>
          rw [hm] at hu
          have hjl : j < M.length := (List.getElem?_eq_some_iff.1 hm).1
          have hcj := unhide HC j hjl
          have er : rwAt M j = r := by unfold rwAt; rw [hm]; rfl
          rw [er] at hcj
          rw [show (⟨b, off, none⟩ : Addr).add j = ⟨b, off + j, none⟩ by simp [Addr.add]]
          rw [hbS.cell (p := ⟨b, off + j, none⟩) hbb, hcj]
          exact hu)
      have ONE := hide (show ∀ u ∈ M.map Rw.v, u.oneCell' = true from fun u hu => by
        obtain ⟨r, _, rfl⟩ := List.mem_map.1 hu
        rfl)
      have OWN := hide (show (w1.alloc (.cells #[] 32)).ownsRow w.heap.size 32 1 (.slice (some ⟨w1.heap.size, 0, none⟩) 0 0) 0 [] from (OwnRows.start w1 w.heap.size hb1w.size).1)
      have FIN := hide (fun v' w3 (ho : w3.ownsRow w.heap.size 32 1 v' (0 + ml) ([] ++ M.map Rw.v)) (hg : (w1.alloc (.cells #[] 32)).grownBy w3 (some w1.heap.size)) (hloc : v'.ownBlock = some w1.heap.size ∨ v'.ownBlock = some (w1.alloc (.cells #[] 32)).heap.size) =>
        (show OwnRows w.heap.size w3 v' M ∧ Below w.heap.size w w3 ∧ SumI w w3 g n (sumRows (valM M) tf i) S ∧ AvR v'.ownBlock ⟨some ⟨g, 0, none⟩, n, S⟩ ∧ Below w1.heap.size w1 w3 from by
          have hbw3 := below_of_grown hbS hg hbS.size (fun m hm => by cases hm; exact hb1w.size)
          have hb13 := below_of_grown hbA hg (by simp) (fun m hm => by cases hm; exact Nat.le_refl _)
          refine ⟨OwnRows.copied (by rw [unhide HL]; simpa using ho) (unhide HM).2.1 hbw3, hbw3, si1.below hb13, ?_, hb13⟩
          rcases hloc with e | e
          · rw [e]; exact AvR.new si1.nums (Nat.le_refl _)
          · rw [e]; exact AvR.new si1.nums (by simp)))
      have LN := hide (show (M.map Rw.v).length = ml * 1 by rw [List.length_map, unhide HL]; omega)
      have BS := hide hbS
      have RKN := hide (show IsRank k (valM M) M.length n by rw [unhide HL]; exact unhide RK)
      have hkl := rank_le (unhide RKN)
      have hkm : k ≤ ml := by have := unhide HL; omega
      have hkn : k ≤ n := hkl.2
      have hck0 : ∀ w', Below w.heap.size w w' → w'.cell? ⟨b, off, none⟩ = some (.slice a0 n c0) := unhide HCK
      have HC0 := hide hck0
      clear hbA hbS rk hb1 hb1w hbw si1 hSI RK hkl hck0 HB4 HTQ
      have NXT := hide (fun vA w3 (f3 : OwnRows w.heap.size w3 vA M ∧ Below w.heap.size w w3 ∧ SumI w w3 g n (sumRows (valM M) tf i) S ∧ AvR vA.ownBlock ⟨some ⟨g, 0, none⟩, n, S⟩ ∧ Below w1.heap.size w1 w3) =>
        (show (w3.alloc (.cells #[.slice (some ⟨g, 0, none⟩) n n] 32)).ownsRow w.heap.size 32 1 vA ml (M.map Rw.v) ∧ w.heap.size ≤ (w3.alloc (.cells #[.slice (some ⟨g, 0, none⟩) n n] 32)).heap.size ∧ (∀ v' w5, w5.ownsRow w.heap.size 32 1 v' (ml + 1) (M.map Rw.v ++ [.slice (some ⟨g, 0, none⟩) n n]) → (w3.alloc (.cells #[.slice (some ⟨g, 0, none⟩) n n] 32)).grownBy w5 vA.ownBlock → (v'.ownBlock = vA.ownBlock ∨ v'.ownBlock = some (w3.alloc (.cells #[.slice (some ⟨g, 0, none⟩) n n] 32)).heap.size) → OwnRows w.heap.size w5 v' (M ++ [(⟨some ⟨g, 0, none⟩, n, S⟩ : Rw)]) ∧ Below w.heap.size w w5) from by
          have hbB : Below w3.heap.size w3 (w3.alloc (.cells #[.slice (some ⟨g, 0, none⟩) n n] 32)) := (Below.refl _ _).alloc (Nat.le_refl _) _
          have o4 := f3.1.below hbB
          have bw4 := f3.2.1.trans (hbB.mono f3.2.1.size)
          have hSl : S.length = n := f3.2.2.1.1
          have hrv : (⟨some ⟨g, 0, none⟩, n, S⟩ : Rw).v = .slice (some ⟨g, 0, none⟩) n n := by unfold Rw.v; rw [hSl]
          refine ⟨by have := o4.1; rwa [unhide HL] at this, bw4.size, fun v' w5 ho hg hloc => ⟨o4.snoc (r := ⟨some ⟨g, 0, none⟩, n, S⟩) (f3.2.2.1.nums.below hbB) f3.2.2.2.1 (by rw [unhide HL, hrv]; exact ho) hg hloc, below_of_grown bw4 hg bw4.size (fun m hm => (f3.1.lt m hm).1)⟩⟩))
      go_wp2_with (first | (at_builtin; refine wpList_append_own_at _ rfl _ _ 22 rfl w.heap.size 32 j0 (.slice none 0 0) 1 24 Try.underlying22 hj0 hy0 hy1 hy2 rfl (by decide) _ _ _ rfl (unhide OWN) ⟨b, off, none⟩ ml cap (M.map Rw.v) rfl (unhide LN) (unhide NEWS) (unhide ONE) (by unfold maxLen; omega) (by omega) (unhide BS).size ?_; intro vA w3 hown' hgrow hnil hloc; have N3 := hide (unhide NXT vA w3 (unhide FIN vA w3 hown' hgrow hloc)); clear hown' hgrow hloc hnil OWN FIN NXT) | (at_builtin; refine wpList_append_own_at _ rfl _ _ 22 rfl w.heap.size 32 j0 (.slice none 0 0) 1 24 Try.underlying22 hj0 hy0 hy1 hy2 rfl (by decide) _ _ _ rfl (unhide N3).1 ⟨w3.heap.size, 0, none⟩ 1 1 [.slice (some ⟨g, 0, none⟩) n n] rfl rfl (cell_one_new _ _ _) (fun u hu => by simp at hu; subst hu; rfl) (by unfold maxLen; omega) (by omega) (unhide N3).2.1 ?_; intro vB w5 hown' hgrow _ hloc; have F5 := hide ((unhide N3).2.2 vB w5 hown' hgrow hloc); clear hown' hgrow hloc N3))
      obtain ⟨a5, c5, rfl, m5, _⟩ := (unhide F5).1.mat
      have B5 := hide (unhide F5).2
      have CR5 := hide (rank_any a5 c5 _ w5 m5 (unhide SPUT).1)
      clear m5 F5 BS NEWS LN ONE
      refine Calls.mono (unhide CR5) ?_
      rintro e w6 ⟨k', rfl, rk', _, hb6⟩
      have hkk : k = k' := (unhide SPUT).2.2 k k' (unhide RKN) (rk' (unhide SPUT).2.1)
      subst hkk
      rw [(unhide SPUT).2.1]
      have b6 := (unhide B5).trans (hb6.mono (unhide B5).size)
      have B6 := hide b6
      have hc6 := unhide HC0 _ b6
      have hkmI : (k : Int) ≤ (ml : Int) := by omega
      have hknI : (k : Int) ≤ (n : Int) := by omega
      have g1 : decide (k ≤ ml) = true := decide_eq_true hkm
      have g2 : decide (k ≤ n) = true := decide_eq_true hkn
      clear rk' hb6 b6 B5 CR5 SPUT RKN
      go_wp2_with fail
      refine (awake3_any _).mono ?_
      rintro e w7 ⟨rfl, hb7⟩
      have B7 := hide ((unhide B6).trans (hb7.mono (unhide B6).size))
      clear hb7 B6
      go_wp2
      go_ret
      exact ⟨rfl, unhide B7⟩

end Go.Proofs.Ytnpogpoknbgodaa

/- A struct of a sign and limbs that came in, opened. -/
namespace Go.Proofs.Ytnpogpoknbgodaa
open Go.ChangeShapes Go.WideShapes Go.ChangeAt Go.RowKit Go.Joins

theorem Try.own : ownKnob Try.prog.godebug = none := by kernel_rfl
theorem Try.laidOut : laidOutB Try.prog = true := by kernel_rfl
theorem Try.cellsW : Try.prog.cellsOf 35 = 2 := by kernel_rfl
theorem Try.cellsU : Try.prog.cellsOf 60 = 1 := by kernel_rfl
theorem Try.bytesU : Try.prog.bytesOf 60 = 4 := by kernel_rfl

theorem bounds_of_u32 {x : Int} (h : (Lit.int .u32 x).wf = true) : 0 ≤ x ∧ x < 4294967296 := by
  simp [Lit.wf, IntKind.min, IntKind.max, IntKind.signed, IntKind.bits] at h
  omega

theorem limbs_of_ints {W : World} {a : Addr} {len cap : Nat} {zs : List Int} (hl : len ≤ cap) (hz : zs.length = cap) (hc : ∀ i, i < zs.length → W.cell? (a.add i) = some (.int .u32 (zs.getD i 0))) (hw : ∀ n ∈ zs, (Lit.int .u32 n).wf = true) :
    LimbsAt W (some a) cap ((zs.take len).map Int.toNat) ∧ ((zs.take len).map Int.toNat).length = len := by
  have hlen : ((zs.take len).map Int.toNat).length = len := by simp; omega
  refine ⟨⟨by omega, ?_, ?_⟩, hlen⟩
  · intro x hx
    obtain ⟨y, hy, rfl⟩ := List.mem_map.1 hx
    have := bounds_of_u32 (hw y (List.mem_of_mem_take hy))
    omega
  · rcases Nat.eq_zero_or_pos len with rfl | hp
    · left; simp
    · right
      obtain ⟨b, off, spot⟩ := a
      have h0 := hc 0 (by omega)
      have hspot : spot = none := by simpa [Addr.add] using World.cell?_spot h0
      subst hspot
      have hb : b < W.heap.size := by
        have := World.block_lt_of_cell? W _ h0
        simpa [Addr.add] using this
      refine ⟨b, off, rfl, hb, fun i hi => ?_⟩
      have h1 := hc i (by omega)
      have h2 : (0 : Int) ≤ zs[i]'(by omega) := (bounds_of_u32 (hw _ (List.getElem_mem _))).1
      have h3 : (⟨b, off, none⟩ : Addr).add i = ⟨b, off + i, none⟩ := by simp [Addr.add]
      rw [h3] at h1
      rw [h1]
      have e : ((zs.take len).map Int.toNat)[i]?.getD 0 = (zs[i]'(by omega)).toNat := by
        rw [List.getElem?_map, List.getElem?_take, if_pos (by omega), List.getElem?_eq_getElem (by omega)]; rfl
      rw [e, List.getD_eq_getElem?_getD, List.getElem?_eq_getElem (by omega)]
      simp only [Option.getD_some, Option.some.injEq, Value.int.injEq, true_and]
      omega

/-- A number that came in: its sign, its limbs, where they lie; by the row's own reach they are not too many. -/
theorem open_whole {H : Type} {enc : TypeId × Value → H} {W : World} {base : Nat} {v : Value} {d : DataW H} {p : List MemPlace} (hval : Value.okWide Try.prog W .any base 35 v) (h : DataW.Trod enc Try.prog W 0 (fun _ => true) true 35 v d p)
    (hs : ∀ n ∈ d.weights Try.prog 35, n ≤ reachBytes) :
    ∃ neg ao cap L, v = .agg #[.bool neg, .slice ao L.length cap] ∧ LimbsAt W ao cap L ∧ L.length ≤ 35184372087808 := by
  obtain ⟨c0, c1, y0, y1, m, rfl, rfl, rfl, hy0, hy1⟩ := open_agg2 Try.underlying35 (by kernel_rfl) Try.cellsW hval h
  obtain ⟨neg, e0, rfl⟩ := DataW.trod_bool Try.underlying4 hy0
  simp at e0
  subst e0
  rcases open_ints Try.underlying33 Try.underlying60 Try.cellsU hy1 with ⟨hcs, _⟩ | ⟨a, len, cap, zs, hcs, _, hl, hm, hz, rfl, hcell, hwz⟩
  · simp at hcs
    subst hcs
    exact ⟨neg, none, 0, [], rfl, LimbsAt.nil _ _ _, by simp⟩
  · simp at hcs
    subst hcs
    obtain ⟨h1, h2⟩ := limbs_of_ints hl (by simpa using hz) hcell hwz
    refine ⟨neg, some a, cap, _, by rw [h2], h1, ?_⟩
    have hk := hs ((zs.length) * 4) (by
      simp only [DataW.weights, Try.underlying35, DataW.weightsEach, List.map, Try.underlying33, List.nil_append, List.append_nil, List.mem_cons, Try.bytesU, lits, List.length_map, List.length_take, List.length_drop]
      left
      omega)
    simp only [reachBytes] at hk
    rw [h2]
    have : zs.length = cap := by simpa using hz
    omega

end Go.Proofs.Ytnpogpoknbgodaa

/- Rows of numbers that came in, opened. -/
namespace Go.Proofs.Ytnpogpoknbgodaa
open Go.ChangeShapes Go.WideShapes Go.ChangeAt Go.RowKit Go.Joins Go.Deep

instance : Inhabited Nm := ⟨Nm.nil⟩
instance : Inhabited Rw := ⟨Rw.nil⟩
theorem Try.cellsB : Try.prog.cellsOf 4 = 1 := by kernel_rfl
theorem Try.cellsL : Try.prog.cellsOf 33 = 1 := by kernel_rfl
theorem Try.cellsR : Try.prog.cellsOf 32 = 1 := by kernel_rfl
theorem Try.bytesW : Try.prog.bytesOf 35 = 32 := by kernel_rfl
theorem Try.bytesR : Try.prog.bytesOf 32 = 24 := by kernel_rfl

theorem mem_weightsAll {H : Type} {P : Program} {e : TypeId} : ∀ {ds : List (DataW H)} {d : DataW H}, d ∈ ds → ∀ n ∈ d.weights P e, n ∈ DataW.weightsAll P e ds
  | d0 :: ds, d, hd, n, hn => by
    show n ∈ d0.weights P e ++ DataW.weightsAll P e ds
    rcases List.mem_cons.1 hd with rfl | hd
    · exact List.mem_append_left _ hn
    · exact List.mem_append_right _ (mem_weightsAll hd n hn)

theorem cell_plain {W : World} {a : Addr} {v : Value} (h : W.cell? a = some v) : a.spot = none ∧ a.block < W.heap.size := ⟨World.cell?_spot h, World.block_lt_of_cell? W _ h⟩

theorem add_plain (b off i : Nat) : (⟨b, off, none⟩ : Addr).add i = ⟨b, off + i, none⟩ := by simp [Addr.add]

/-- The two parts of a number. -/
theorem open_parts {H : Type} {enc : TypeId × Value → H} {W : World} {n : Nat} {v0 v1 : Value} {d0 d1 : DataW H} {p0 p1 : List MemPlace} (h0 : DataW.trod enc Try.prog W 0 (fun _ => true) true n 4 [v0] = some (d0, p0)) (h1 : DataW.trod enc Try.prog W 0 (fun _ => true) true n 33 [v1] = some (d1, p1))
    (hs : ∀ k ∈ d1.weights Try.prog 33, k ≤ reachBytes) : ∃ x : Nm, v0 = .bool x.neg ∧ v1 = .slice x.ao x.L.length x.cap ∧ LimbsAt W x.ao x.cap x.L ∧ x.L.length ≤ 35184372087808 := by
  obtain ⟨neg, e0, -⟩ := DataW.trod_bool Try.underlying4 h0
  simp at e0
  subst e0
  rcases open_ints Try.underlying33 Try.underlying60 Try.cellsU h1 with ⟨hcs, _⟩ | ⟨a, len, cap, zs, hcs, _, hl, hm, hz, hx, hcell, hwz⟩
  · simp at hcs
    subst hcs
    exact ⟨⟨neg, none, 0, []⟩, rfl, rfl, LimbsAt.nil _ _ _, by simp⟩
  · simp at hcs
    subst hcs
    simp only [Prod.mk.injEq] at hx
    obtain ⟨rfl, -⟩ := hx
    obtain ⟨h1, h2⟩ := limbs_of_ints hl (by simpa using hz) hcell hwz
    refine ⟨⟨neg, some a, cap, _⟩, rfl, by rw [h2], h1, ?_⟩
    have hk := hs ((zs.length) * 4) (by
      simp only [DataW.weights, Try.underlying33, List.mem_cons, Try.bytesU, lits, List.length_map, List.length_take, List.length_drop]
      left
      omega)
    simp only [reachBytes] at hk
    show _ ≤ 35184372087808
    rw [h2]
    have : zs.length = cap := by simpa using hz
    omega

/-- A row of numbers. -/
theorem open_nums {H : Type} {enc : TypeId × Value → H} {W : World} {fuel : Nat} {cs : List Value} {x : DataW H × List MemPlace} (h : DataW.trod enc Try.prog W 0 (fun _ => true) true fuel 32 cs = some x)
    (hs : ∀ k ∈ x.1.weights Try.prog 32, k ≤ reachBytes) : ∃ r : Rw, cs = [.slice r.ao r.R.length r.cap] ∧ NumsAt W r.ao r.cap r.R ∧ r.R.length ≤ 35184372088830 ∧ ∀ y ∈ r.R, y.L.length ≤ 35184372088830 := by
  rcases open_slice_pairs Try.underlying32 Try.underlying35 Try.cellsW rfl rfl Try.cellsB Try.cellsL h with ⟨hc, _⟩ | ⟨a, len, cap, m, n, V0, V1, D0, D1, P0, P1, hc, _, hl, hm, hmm, hx, hall⟩
  · exact ⟨Rw.nil, hc, ⟨by simp [Rw.nil], by simp [Rw.nil], .inl rfl⟩, by simp [Rw.nil], by simp [Rw.nil]⟩
  · subst hx
    have hmm' : m = cap := by simpa using hmm
    subst hmm'
    have hw : ∀ i, i < len → ∀ k ∈ (D1 i).weights Try.prog 33, k ≤ reachBytes := by
      intro i hi k hk
      refine hs k ?_
      simp only [DataW.weights, Try.underlying32]
      refine List.mem_cons_of_mem _ (List.mem_append_left _ (mem_weightsAll (d := .agg [D0 i, D1 i]) (List.mem_map.2 ⟨i, List.mem_range.2 hi, rfl⟩) k ?_))
      simp only [DataW.weights, Try.underlying35]
      exact DataW.weights_mem_each (j := 1) rfl rfl k hk
    obtain ⟨f, hf⟩ := choose_lt (n := len) (p := fun i (y : Nm) => V0 i = .bool y.neg ∧ V1 i = .slice y.ao y.L.length y.cap ∧ LimbsAt W y.ao y.cap y.L ∧ y.L.length ≤ 35184372087808) (fun i hi => by
      obtain ⟨_, _, t0, t1⟩ := hall i (by omega)
      exact open_parts t0 t1 (hw i hi))
    have hlen : ((List.range len).map f).length = len := by simp
    have hlb : len ≤ 35184372088830 := by
      have := hs ((len + (m - len)) * 32) (by
        simp only [DataW.weights, Try.underlying32, Try.bytesW, List.length_map, List.length_range]
        exact List.mem_cons_self)
      simp only [reachBytes] at this
      omega
    have hnm : ∀ k, k < len → nmAt ((List.range len).map f) k = f k := fun k hk => by
      unfold nmAt
      rw [List.getElem?_map, List.getElem?_range hk]; rfl
    refine ⟨⟨some a, m, (List.range len).map f⟩, by rw [hc]; simp, ⟨by simp; omega, ?_, ?_⟩, by simp; omega, ?_⟩
    · intro y hy
      obtain ⟨i, hi, rfl⟩ := List.mem_map.1 hy
      exact (hf i (List.mem_range.1 hi)).2.2.1
    · rcases Nat.eq_zero_or_pos len with rfl | hp
      · left; simp
      · right
        obtain ⟨b, off, spot⟩ := a
        obtain ⟨e1, e2⟩ := cell_plain (hall 0 (by omega)).1
        have hspot : spot = none := by simpa [Addr.add] using e1
        subst hspot
        refine ⟨b, off, rfl, by simpa [Addr.add] using e2, fun k hk => ?_⟩
        simp only [hlen] at hk
        obtain ⟨g0, g1, g2, _⟩ := hf k hk
        obtain ⟨q0, q1, _, _⟩ := hall k (by omega)
        rw [hnm k hk, ← g0, ← g1]
        rw [add_plain] at q0 q1
        refine ⟨q0, ?_⟩
        rw [Nat.add_assoc]; exact q1
    · intro y hy
      obtain ⟨i, hi, rfl⟩ := List.mem_map.1 hy
      have := (hf i (List.mem_range.1 hi)).2.2.2
      omega

/-- Rows of numbers that came in. -/
theorem open_rows {H : Type} {enc : TypeId × Value → H} {W : World} {base : Nat} {v : Value} {d : DataW H} {p : List MemPlace} (hval : Value.okWide Try.prog W .any base 22 v) (h : DataW.Trod enc Try.prog W 0 (fun _ => true) true 22 v d p)
    (hs : ∀ n ∈ d.weights Try.prog 22, n ≤ reachBytes) : ∃ ao cap M, v = .slice ao M.length cap ∧ MatAt W ao cap M ∧ SmallM M := by
  obtain ⟨a0, len0, cap0, rfl⟩ := okWide_slice Try.underlying22 hval
  obtain ⟨fuel, hf0⟩ := h
  rcases open_slice1 Try.underlying22 Try.cellsR hf0 with ⟨hc, _⟩ | ⟨a, len, cap, m, n, V, D, Pl, hc, _, hl, hm, hmm, hx, hall⟩
  · simp [Value.cells] at hc
    obtain ⟨rfl, rfl, rfl⟩ := hc
    exact ⟨none, 0, [], rfl, ⟨by simp, by simp, .inl rfl⟩, ⟨by simp, by simp⟩⟩
  · simp [Value.cells] at hc
    obtain ⟨rfl, rfl, rfl⟩ := hc
    simp only [Prod.mk.injEq] at hx
    obtain ⟨rfl, -⟩ := hx
    have hmm' : m = cap0 := by simpa using hmm
    subst hmm'
    have hw : ∀ i, i < len0 → ∀ k ∈ (D i).weights Try.prog 32, k ≤ reachBytes := by
      intro i hi k hk
      refine hs k ?_
      simp only [DataW.weights, Try.underlying22]
      exact List.mem_cons_of_mem _ (List.mem_append_left _ (mem_weightsAll (List.mem_map.2 ⟨i, List.mem_range.2 hi, rfl⟩) k hk))
    obtain ⟨f, hf⟩ := choose_lt (n := len0) (p := fun i (r : Rw) => [V i] = [.slice r.ao r.R.length r.cap] ∧ NumsAt W r.ao r.cap r.R ∧ r.R.length ≤ 35184372088830 ∧ ∀ y ∈ r.R, y.L.length ≤ 35184372088830) (fun i hi => open_nums (hall i (by omega)).2 (hw i hi))
    have hlen : ((List.range len0).map f).length = len0 := by simp
    have hlb : len0 ≤ 35184372088830 := by
      have := hs ((len0 + (m - len0)) * 24) (by
        simp only [DataW.weights, Try.underlying22, Try.bytesR, List.length_map, List.length_range]
        exact List.mem_cons_self)
      simp only [reachBytes] at this
      omega
    have hnm : ∀ k, k < len0 → rwAt ((List.range len0).map f) k = f k := fun k hk => by
      unfold rwAt
      rw [List.getElem?_map, List.getElem?_range hk]; rfl
    refine ⟨some a, m, (List.range len0).map f, by rw [hlen], ⟨by simp; omega, ?_, ?_⟩, ⟨by simp; omega, ?_⟩⟩
    · intro r hr
      obtain ⟨i, hi, rfl⟩ := List.mem_map.1 hr
      exact (hf i (List.mem_range.1 hi)).2.1
    · rcases Nat.eq_zero_or_pos len0 with rfl | hp
      · left; simp
      · right
        obtain ⟨b, off, spot⟩ := a
        obtain ⟨e1, e2⟩ := cell_plain (hall 0 (by omega)).1
        have hspot : spot = none := by simpa [Addr.add] using e1
        subst hspot
        refine ⟨b, off, rfl, by simpa [Addr.add] using e2, fun i hi => ?_⟩
        simp only [hlen] at hi
        obtain ⟨g0, _⟩ := hf i hi
        have q0 := (hall i (by omega)).1
        rw [hnm i hi]
        rw [add_plain] at q0
        simp only [List.cons.injEq, and_true] at g0
        rw [q0, g0]; rfl
    · intro r hr
      obtain ⟨i, hi, rfl⟩ := List.mem_map.1 hr
      exact (hf i (List.mem_range.1 hi)).2.2

end Go.Proofs.Ytnpogpoknbgodaa

/- A list of int32s that came in, opened. -/
namespace Go.Proofs.Ytnpogpoknbgodaa
open Go.ChangeShapes Go.WideShapes Go.ChangeAt Go.RowKit Go.Joins Go.Deep

theorem Try.cellsT : Try.prog.cellsOf 21 = 1 := by kernel_rfl
theorem Try.bytesT : Try.prog.bytesOf 21 = 4 := by kernel_rfl

theorem bounds_of_i32 {x : Int} (h : (Lit.int .i32 x).wf = true) : -2147483648 ≤ x ∧ x ≤ 2147483647 := by
  simp [Lit.wf, IntKind.min, IntKind.max, IntKind.signed, IntKind.bits] at h
  omega

theorem open_times {H : Type} {enc : TypeId × Value → H} {W : World} {base : Nat} {v : Value} {d : DataW H} {p : List MemPlace} (hval : Value.okWide Try.prog W .any base 31 v) (h : DataW.Trod enc Try.prog W 0 (fun _ => true) true 31 v d p)
    (hs : ∀ n ∈ d.weights Try.prog 31, n ≤ reachBytes) : ∃ ao cap I, v = .slice ao I.length cap ∧ TsAt W ao cap I ∧ I.length ≤ 35184372088830 := by
  obtain ⟨a0, len0, cap0, rfl⟩ := okWide_slice Try.underlying31 hval
  obtain ⟨fuel, hf⟩ := h
  rcases open_ints Try.underlying31 Try.underlying21 Try.cellsT hf with ⟨hcs, _⟩ | ⟨a, len, cap, zs, hcs, _, hl, hm, hz, hx, hcell, hwz⟩
  · simp [Value.cells] at hcs
    obtain ⟨rfl, rfl, rfl⟩ := hcs
    exact ⟨none, 0, [], rfl, ⟨by simp, by simp, .inl rfl⟩, by simp⟩
  · simp [Value.cells] at hcs
    obtain ⟨rfl, rfl, rfl⟩ := hcs
    simp only [Prod.mk.injEq] at hx
    obtain ⟨rfl, -⟩ := hx
    have hzc : zs.length = cap0 := by simpa using hz
    have hk := hs ((zs.length) * 4) (by
      simp only [DataW.weights, Try.underlying31, List.mem_cons, Try.bytesT, lits, List.length_map, List.length_take, List.length_drop]
      left
      omega)
    simp only [reachBytes] at hk
    have hlen : (zs.take len0).length = len0 := by simp; omega
    refine ⟨some a, cap0, zs.take len0, by rw [hlen], ⟨by omega, fun x hx => bounds_of_i32 (hwz x (List.mem_of_mem_take hx)), ?_⟩, by omega⟩
    rcases Nat.eq_zero_or_pos len0 with rfl | hp
    · left; simp
    · right
      obtain ⟨b, off, spot⟩ := a
      obtain ⟨e1, e2⟩ := cell_plain (hcell 0 (by omega))
      have hspot : spot = none := by simpa [Addr.add] using e1
      subst hspot
      refine ⟨b, off, rfl, by simpa [Addr.add] using e2, fun i hi => ?_⟩
      have h1 := hcell i (by omega)
      rw [add_plain] at h1
      rw [h1, List.getElem?_take, if_pos (by omega), List.getD_eq_getElem?_getD]

end Go.Proofs.Ytnpogpoknbgodaa

namespace Go.Proofs.Ytnpogpoknbgodaa
open Go.ChangeShapes Go.WideShapes Go.ChangeAt Go.RowKit

set_option maxRecDepth 100000 in
theorem exactSums_lifted (os : Os) (started : os.Started) (H : Type) (enc : TypeId × Value → H) :
    ReturnsInHanded {} Try.checked os 4 .any (Rows.exactSumsSpec.pre6 enc Try.prog Try.f4 Rows.exactSumsRow.domain false) (Rows.exactSumsSpec.post enc Try.prog Try.f4 false true false false) := by
  refine returnsInHanded_of_change_sized (C := Try.checked) Try.own started (by kernel_rfl) Try.func4
    (ChangeSpec.witness6 (enc := enc) (C := Try.checked) false ⟨#[], #[.slice none 0 0, .slice none 0 0], []⟩ 8 (by kernel_rfl) (by kernel_rfl) (by kernel_rfl) (by kernel_rfl)) ?_
  intro W base args ds gs before hval0 hW hcnd hsz0 _
  have hval : ∀ (j : Nat) t v, Try.f4.params[j]? = some t → args[j]? = some v → Value.okWide Try.prog W .any base t v := hval0
  have hsz : (DataW.weightsEach Try.prog (Try.f4.params.toList ++ Rows.exactSumsSpec.plain.varTypes Try.prog) (ds ++ gs)).all (· ≤ reachBytes) = true := hsz0
  have hW' := hW
  obtain ⟨p, q, hA0, hV, rfl, hfz, hnd⟩ := hW
  have hA : DataW.TrodAll enc Try.prog W 0 (fun _ => true) true Try.f4.params.toList args.toList ds p := hA0
  rw [Try.params4] at hA hval hsz
  obtain ⟨v0, vs0, d0, ds0, p0, q0, hargs, rfl, rfl, h0, r0⟩ := trodAll_cons hA
  obtain ⟨v1, vs1, d1, ds1, p1, q1, rfl, rfl, rfl, h1, r1⟩ := trodAll_cons r0
  obtain ⟨rfl, rfl, rfl⟩ := trodAll_nil r1
  obtain rfl : args = #[v0, v1] := by cases args; simp_all
  obtain ⟨rfl, rfl⟩ := trodVars_none hV
  have k0 := h0
  have lt0 : ∀ x ∈ p0, x.block < W.heap.size := by obtain ⟨m, hm⟩ := k0; exact DataW.trod_lt m _ _ _ hm
  obtain ⟨a0, c0, M, rfl, hM, hSm⟩ := open_rows (hval 0 22 v0 rfl rfl) h0 (fun n hn => of_decide_eq_true (List.all_eq_true.1 hsz n (DataW.weights_mem_each (j := 0) rfl rfl n hn)))
  have k1 := h1
  have lt1 : ∀ x ∈ p1, x.block < W.heap.size := by obtain ⟨m, hm⟩ := k1; exact DataW.trod_lt m _ _ _ hm
  obtain ⟨a1, c1, L1, rfl, hL1, hl1⟩ := open_times (hval 1 31 v1 rfl rfl) h1 (fun n hn => of_decide_eq_true (List.all_eq_true.1 hsz n (DataW.weights_mem_each (j := 1) rfl rfl n hn)))
  clear hA0 hval0
  refine (exactSums_walk a0 c0 M a1 c1 L1 W hM hSm hL1 hl1).mono fun e W' ⟨he, bel⟩ => ?_
  subst he
  exact ⟨_, rfl, _, _, _, [], _, [], hW', trodAll_mk1 (shut_bool Try.underlying4 _), trodAll_cons_mk (Below.trod Try.laidOut (by kernel_rfl) (of_decide_eq_true (by kernel_rfl)) k0 bel lt0) (trodAll_cons_mk (Below.trod Try.laidOut (by kernel_rfl) (of_decide_eq_true (by kernel_rfl)) k1 bel lt1) (trodAll_mk0)), rfl, bel.frame _, fun h => by cases h⟩

/-- The statement. -/
theorem exactSums_holds : Rows.ExactSumsSaid :=
  OpenClaim.holds_of_wide 4 Try.f4 rfl rfl rfl rfl rfl rfl rfl ⟨rfl, rfl, rfl, rfl, rfl⟩ rfl rfl rfl rfl rfl (by kernel_rfl) Try.func4 (by kernel_rfl)
    (of_decide_eq_true (by kernel_rfl)) (by unfold Func.isWrapper; first | (rw [if_pos (by decide +kernel)]; kernel_rfl) | (rw [if_neg (by decide +kernel)]; exact ⟨rfl, rfl⟩))
    (fun os started H enc _ => exactSums_lifted os started H enc)
#print axioms exactSums_holds

end Go.Proofs.Ytnpogpoknbgodaa

