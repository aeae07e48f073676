/- Part 16 of the texts. -/
import Derived.Test.YtlcidapdmgchoaaPart15
import Derived.Test.YtlcidapdmgchoaaPart14
import Derived.Test.YtlcidapdmgchoaaPart13
import Derived.Test.YtlcidapdmgchoaaPart09
import Derived.Test.YtlcidapdmgchoaaPart11
/- Contract of the reference's Det. -/
namespace Go.Proofs.Ytlcidapdmgchoaa
open Go.RowKit
attribute [local go_sem ↓] Go.wp_at_zero Go.wp_at_succ

/-- What stands behind the product. -/
def TailD (w : World) (n : Bool) (a : Option Addr) (L : List Nat) (c : Nat) (np : Bool) (ap : Option Addr) (Lp : List Nat) (cp : Nat) (x y : Int) (g : Nat) (W : World) : Prop :=
  Box2 W g (.bool np) (.slice ap Lp.length cp) ∧ IsNum 0 W (.agg #[.bool np, .slice ap Lp.length cp]) y ∧ Below w.heap.size w W ∧ Box2 W (w.heap.size + 1) (.bool n) (.slice a L.length c) ∧ Box2 W w.heap.size (.bool false) (.slice none 0 0) ∧ w.heap.size + 1 < g ∧ IsNum 0 W (.agg #[.bool n, .slice a L.length c]) x

theorem Box2.oth {w : World} {b g : Nat} {x y x' y' : Value} (_ : Box2 w g x' y') (h : Box2 w b x y) (hlt : b < g) (u u' : Value) : Box2 ((w.setCell ⟨g, 0, none⟩ u).setCell ⟨g, 1, none⟩ u') b x y := h.other (Nat.ne_of_lt hlt) u u'
theorem below_put {w w' : World} {B g : Nat} {x y : Value} (_ : Box2 w' g x y) (h : Below B w w') (hg : B ≤ g) (u u' : Value) : Below B w ((w'.setCell ⟨g, 0, none⟩ u).setCell ⟨g, 1, none⟩ u') := (h.setCell (p := ⟨g, 0, none⟩) hg u).setCell (p := ⟨g, 1, none⟩) hg u'

theorem slice_tail (ba oa ca : Nat) (x : Int) (A : List Int) (hc : A.length + 1 ≤ ca) : ∃ asl : Option Addr, (∀ W, (Instr.slice 35 (.slice (some ⟨ba, oa, none⟩) (A.length + 1) ca) (some (.int .i64 1)) none none).run Try.prog W = .ok (.slice asl A.length (ca - 1)) W) ∧ ∀ w', IntsAt w' (some ⟨ba, oa, none⟩) ca (x :: A) → IntsAt w' asl (ca - 1) A := by
  by_cases h1 : ca = 1
  · subst h1
    have h0 : A = [] := List.length_eq_zero_iff.1 (by omega)
    subst h0
    exact ⟨some ⟨ba, oa, none⟩, fun W => by kernel_rfl, fun w' _ => IntsAt.nil _ _ _⟩
  · refine ⟨some ⟨ba, oa + 1, none⟩, fun W => ?_, fun w' h => h.tail⟩
    have h2 : (1 : Int) ≤ (A.length : Int) + 1 := by omega
    simp [Instr.slice, Instr.sliceBounds, Instr.sliceBound, go_sem, h1, h2]

set_option maxHeartbeats 8000000 in
theorem refDet_any (ao : Option Addr) (cap : Nat) (M : List Rw) (n : Nat) (hg : GoodM M n) : ∀ (k : Nat) (A C : List Int) (aa ac : Option Addr) (ca cc : Nat) (w : World), MatAt w ao cap M → A.length = k → C.length = k → k ≤ 6 → InI M.length A → InI n C → IntsAt w aa ca A → IntsAt w ac cc C →
    Calls Try.prog 16 #[.slice ao M.length cap, .slice aa A.length ca, .slice ac C.length cc] w fun e w' => ∃ v, e = .returned v ∧ IsNum 0 w' v (detD ((natI A).map (valM M)) (natI C)) ∧ Below w.heap.size w w' := by
  intro k
  induction k with
  | zero =>
    intro A C aa ac ca cc w hM hA hC _ _ _ _ _
    have e1 : A = [] := List.length_eq_zero_iff.1 hA
    subst e1
    have hv : detD ((natI []).map (valM M)) (natI C) = 1 := rfl
    rw [hv]
    have X0 := hide (Box2.new w (.bool false) (.slice none 0 0))
    have B0 := hide (show Below w.heap.size w (w.alloc (.cells #[.bool false, .slice none 0 0] 30)) from (Below.refl _ _).alloc (Nat.le_refl _) _)
    clear hM hA hC hv
    go_enter Try.func16, Try.ntmps16
    go_wp2_with fail
    refine (refOf_any 1 _ (by decide) (by decide)).mono ?_
    rintro e w1 ⟨v, rfl, iv, hb1⟩
    obtain ⟨n1, a1, c1, L1, rfl, i1⟩ := iv.num (by decide)
    have x3 := (unhide X0).below hb1 (by simp)
    have e0 := x3.c0; have e1 := x3.c1; have f0 := x3.free 0; have f1 := x3.free 1
    have b3 := (unhide B0).trans (hb1.mono (unhide B0).size)
    have N := hide ((IsNum.mono (show IsNum _ w1 (.agg #[.bool n1, .slice a1 L1.length c1]) 1 from ⟨n1, a1, c1, L1, rfl, i1⟩) (Nat.zero_le _)).stb (Stb.put2 (Base := 0) x3 (Nat.zero_le _) (.bool n1) (.slice a1 L1.length c1)))
    have B3 := hide ((b3.setCell (p := ⟨w.heap.size, 0, none⟩) (Nat.le_refl _) (.bool n1)).setCell (p := ⟨w.heap.size, 1, none⟩) (Nat.le_refl _) (.slice a1 L1.length c1))
    clear x3 b3 i1 hb1 X0 B0 iv
    go_wp2_with fail
    refine bodyPost_ret (v := .agg #[.bool n1, .slice a1 L1.length c1]) (by simp [results, Try.results16, go_sem, e0, e1]) rfl ⟨_, rfl, unhide N, unhide B3⟩
  | succ k ih =>
    intro A C aa ac ca cc w hM hA hC hk6 iA iC hAA hCC
    match A, hA with
    | xa :: A', hA =>
    obtain ⟨a0, ha0, ha1, ha2⟩ := iA.at (j := 0) (by simp)
    have hxa : xa = (a0 : Int) := by simpa [atI] using ha0
    subst hxa
    obtain ⟨r, hr⟩ : ∃ r, valM M a0 = r := ⟨_, rfl⟩
    obtain ⟨D, hD⟩ : ∃ D, detD ((natI A').map (valM M)) = D := ⟨_, rfl⟩
    obtain ⟨cs, hcs⟩ : ∃ cs, natI C = cs := ⟨_, rfl⟩
    have hcl : cs.length = k + 1 := by rw [← hcs]; simp [natI]; exact hC
    have hv : detD ((natI ((a0 : Int) :: A')).map (valM M)) (natI C) = exP r cs D cs.length := by
      rw [exP_exD, ← hr, ← hD, ← hcs]; rfl
    rw [hv]
    have hal : A'.length = k := by simpa using hA
    have hk5 : k ≤ 5 := by omega
    have hCin := iC.nat
    rw [hcs] at hCin
    have hBr : ∀ j, j < cs.length → (r (cs[j]?.getD 0)).natAbs ≤ B80 := fun j hj => by
      rw [← hr]
      refine (hg.2.2.2 a0 _ ha1 ?_).2
      rw [List.getElem?_eq_getElem hj]; exact hCin _ (List.getElem_mem hj)
    have hBD : ∀ j, j < cs.length → (D (cs.eraseIdx j)).natAbs ≤ NB k := fun j hj => by
      rw [← hD]
      have := detD_bound B80 ((natI A').map (valM M)) (cs.eraseIdx j) (by rw [List.length_map, natI_len, hal, List.length_eraseIdx, if_pos hj]; omega) (by
        intro f hf d hd
        obtain ⟨i, hi, rfl⟩ := List.mem_map.1 hf
        exact (hg.2.2.2 i d (iA.tail.nat i hi) (hCin d (List.mem_of_mem_eraseIdx hd))).2)
      rw [List.length_map, natI_len, hal] at this
      exact this
    have hN := NB_small k hk5
    have HBND := hide (fun j (hj : j < cs.length) => (show (exP r cs D j).natAbs < TOP ∧ (r (cs[j]?.getD 0)).natAbs < TOP ∧ (D (cs.eraseIdx j)).natAbs < TOP ∧ (r (cs[j]?.getD 0) * D (cs.eraseIdx j)).natAbs < TOP from by
      have e1 := exP_bound r cs D B80 (NB k) j (fun c hc => hBr c (by omega)) (fun c hc => hBD c (by omega))
      have e2 := hBr j hj
      have e3 := hBD j hj
      have hm : (r (cs[j]?.getD 0) * D (cs.eraseIdx j)).natAbs ≤ B80 * NB k := by
        rw [Int.natAbs_mul]; exact Nat.mul_le_mul e2 e3
      have h5 : j * (B80 * NB k) ≤ 5 * (B80 * NB k) := Nat.mul_le_mul_right _ (by omega)
      generalize B80 * NB k = BN at *
      generalize r (cs[j]?.getD 0) * D (cs.eraseIdx j) = t at *
      generalize exP r cs D j = u at *
      generalize j * BN = kb at *
      obtain ⟨g1, g2, g3, g4⟩ := hN
      refine ⟨by omega, by omega, by omega, by omega⟩))
    obtain ⟨ba, oa, hae, hba, hca⟩ := hAA.ne (by simp)
    obtain ⟨bc, oc, hce, hbc, hcc⟩ := hCC.ne (by omega)
    obtain ⟨b, off, hao, hbb, hcm⟩ := hM.ne (by omega)
    subst hae; subst hce; subst hao
    have hca0 := hca 0 (by simp)
    have hrow := hcm a0 ha1
    have hrl := hg.2.2.1 a0 ha1
    have hnum := hM.nums ha1
    obtain ⟨ar, har⟩ : ∃ x, (rwAt M a0).ao = x := ⟨_, rfl⟩
    obtain ⟨cr, hcr⟩ : ∃ x, (rwAt M a0).cap = x := ⟨_, rfl⟩
    obtain ⟨R, hR⟩ : ∃ x, (rwAt M a0).R = x := ⟨_, rfl⟩
    rw [har, hcr, hR] at hrow hnum
    rw [hR] at hrl
    obtain ⟨b1, o1, har1, hb1, hcn⟩ := hnum.ne (by
      obtain ⟨q, _, hq, _⟩ := iC.at (j := 0) (by omega)
      omega)
    subst har1
    have CDT := hide (fun (w' : World) (C' : List Int) (ac' : Option Addr) (cc' : Nat) (hl : C'.length = k) (iC' : InI n C') (hw : Below w.heap.size w w') (hi : IntsAt w' ac' cc' C') (aa' : Option Addr) (ca' : Nat) (hA' : IntsAt w' aa' ca' A') => ih A' C' aa' ac' ca' cc' w' (hM.below hw) hal hl (by omega) iA.tail iC' hA' hi)
    have HR := hide (fun q (hq : q < n) => (show rightN (nmAt R q) = true ∧ sval (nmAt R q).neg (nmAt R q).L = r q by
      have := (hg.2.2.2 a0 q ha1 hq).1
      rw [← hr]; unfold valM; unfold entry at this ⊢; rw [hR] at this ⊢; exact ⟨this, rfl⟩))
    have HIC := hide iC
    have HCC := hide (fun w' (h : Below w.heap.size w w') => hCC.below h)
    have HAA := hide (fun w' (h : Below w.heap.size w w') => hAA.below h)
    have HCEL := hide (fun w' (h : Below w.heap.size w w') => (show w'.cell? ⟨ba, oa, none⟩ = some (.int .i64 (a0 : Int)) ∧ w'.cell? ⟨b, off + a0, none⟩ = some (.slice (some ⟨b1, o1, none⟩) R.length cr) from
      ⟨by rw [h.cell (p := ⟨ba, oa, none⟩) hba]; simpa using hca0, by rw [h.cell (p := ⟨b, off + a0, none⟩) hbb]; exact hrow⟩))
    have HCC2 := hide (fun w' (h : Below w.heap.size w w') j (hj : j < C.length) q (hq : atI C j = (q : Int)) => (show w'.cell? ⟨bc, oc + j, none⟩ = some (.int .i64 (q : Int)) by rw [h.cell (p := ⟨bc, oc + j, none⟩) hbc, hcc j hj]; exact congrArg some (congrArg (Value.int .i64) hq)))
    have HNM := hide (fun w' (h : Below w.heap.size w w') => hnum.below h)
    have hrR : R.length = n := hrl
    have HM6 := hg.1
    have hn6 := hg.2.1
    have hM6I : (a0 : Int) < (M.length : Int) := by omega
    have hcapA := hAA.1
    have hcapC := hCC.1
    have hNat : ∀ j, j < C.length → (natI C)[j]?.getD 0 = cs[j]?.getD 0 := fun j _ => by rw [hcs]
    have HNA := hide hNat
    have HERA := hide (fun j => (show natI (C.eraseIdx j) = cs.eraseIdx j by rw [natI_erase, hcs]))
    have HDD := hide hD
    clear hM hAA hCC hba hbc hbb hb1 hca hcc hcm hcn hca0 hrow hnum hg ih hv hBr hBD hN hCin hNat hcs hD hr iA iC ha0 ha2
    generalize hCl : C.length = cl at *
    have HCL := hide hCl
    have hclk : cl = k + 1 := hC
    have X0 := hide ((Box2.new w (.bool false) (.slice none 0 0)).old (.cells #[.bool false, .slice none 0 0] 30))
    have x1 := Box2.new (w.alloc (.cells #[.bool false, .slice none 0 0] 30)) (.bool false) (.slice none 0 0)
    simp only [World.size_alloc] at x1
    have X1 := hide x1
    have B0 := hide (show Below w.heap.size w ((w.alloc (.cells #[.bool false, .slice none 0 0] 30)).alloc (.cells #[.bool false, .slice none 0 0] 30)) from ((Below.refl _ _).alloc (Nat.le_refl _) _).alloc (by simp) _)
    have hA1 : A'.length + 1 = k + 1 := by omega
    have hcl1 : cs.length = cl := by omega
    have hk0 : (((k : Nat) : Int) + 1 == 0) = false := by simp; omega
    have hcl6 : cl ≤ 6 := by omega
    clear hCl hC x1 hA
    go_enter Try.func16, Try.ntmps16
    go_wp2_with fail
    go_loopw [8] (fun i wr => ∃ (j : Nat) (m : Bool) (a : Option Addr) (c : Nat) (L : List Nat), j ≤ cl ∧ i = .int .i64 j ∧ Box2 wr (w.heap.size + 1) (.bool m) (.slice a L.length c) ∧ Box2 wr w.heap.size (.bool false) (.slice none 0 0) ∧ Hid (IsNum 0 wr (.agg #[.bool m, .slice a L.length c]) (exP r cs D j)) ∧ Hid (Below w.heap.size w wr)) (fun i _ => cl - (intOf i).toNat)
    case atStart => exact ⟨0, false, none, 0, [], Nat.zero_le _, rfl, unhide X1, unhide X0, hide (IsNum.zero _ _ _ _), B0⟩
    case round =>
      obtain ⟨j, m, a, c, L, hj, rfl, hx1, hx0, hnum, hb⟩ := hrel
      by_cases hlt : j < cl
      · obtain ⟨cj, hcj1, hcj2, hcj3⟩ := (unhide HIC).at (j := j) (by rw [unhide HCL]; exact hlt)
        rw [unhide HNA j hlt] at hcj3
        obtain ⟨asl, hsl, hslI⟩ := slice_tail ba oa ca (a0 : Int) A' (by simpa using hcapA)
        have hcR : cj < R.length := by omega
        obtain ⟨x, hx⟩ : ∃ x, nmAt R cj = x := ⟨_, rfl⟩
        obtain ⟨hright, hsv⟩ := unhide HR cj hcj2
        rw [hx] at hright hsv
        have hbnd := unhide HBND j (by omega)
        rw [hcj3] at hbnd
        have CWO := hide (fun w' (h : Below wr.heap.size wr w') => by
          have hh := (unhide hb).trans (h.mono (unhide hb).size)
          have := withoutI_any _ cc C j w' (unhide HCC _ hh) (by rw [unhide HCL]; exact hlt) (by rw [unhide HCL]; omega)
          rw [unhide HCL] at this
          exact this)
        have hlE : (C.eraseIdx j).length = k := by rw [List.length_eraseIdx, unhide HCL, if_pos hlt]; omega
        have CDET := hide (fun w' (ac' : Option Addr) (cc' : Nat) (h : Below wr.heap.size wr w') (hi : IntsAt w' ac' cc' (C.eraseIdx j)) => by
          have hh := (unhide hb).trans (h.mono (unhide hb).size)
          have := unhide CDT w' (C.eraseIdx j) ac' cc' hlE ((unhide HIC).erase j) hh hi asl (ca - 1) (hslI _ (unhide HAA _ hh))
          rw [unhide HERA j, unhide HDD] at this
          exact this)
        have CMUL := hide (fun w' v (h : Below wr.heap.size wr w') (hv : IsNum 0 w' v (D (cs.eraseIdx j))) => by
          have hh := (unhide hb).trans (h.mono (unhide hb).size)
          have h1 := (unhide HNM _ hh).limbs hcR
          rw [hx] at h1
          have h2 := right_num h1 hright (NewAt.zero h1)
          rw [hsv] at h2
          exact refMul_num h2 hv hbnd.2.1 hbnd.2.2.1)
        have HK := hide (fun w' (h : Below wr.heap.size wr w') => (show Below wr.heap.size wr w' ∧ w'.cell? ⟨ba, oa, none⟩ = some (.int .i64 (a0 : Int)) ∧ w'.cell? ⟨b, off + a0, none⟩ = some (.slice (some ⟨b1, o1, none⟩) R.length cr) ∧ w'.cell? ⟨bc, oc + j, none⟩ = some (.int .i64 (cj : Int)) ∧ w'.cell? ⟨b1, o1 + cj * 2, none⟩ = some (.bool x.neg) ∧ w'.cell? ⟨b1, o1 + cj * 2 + 1, none⟩ = some (.slice x.ao x.L.length x.cap) by
          have hh := (unhide hb).trans (h.mono (unhide hb).size)
          have q := (unhide HNM _ hh).cells hcR
          rw [hx] at q
          exact ⟨h, (unhide HCEL _ hh).1, (unhide HCEL _ hh).2, unhide HCC2 _ hh j hlt cj hcj1, q.1, q.2⟩))
        have hres : Hid (exP r cs D (j + 1) = exP r cs D j + (if j % 2 = 1 then -(r cj * D (cs.eraseIdx j)) else r cj * D (cs.eraseIdx j))) := by
          unfold Hid; conv => lhs; unfold exP
          rw [hcj3]
        have HBN := hide hbnd
        have HT := hide (fun (W : World) (g : Nat) {np : Bool} {ap : Option Addr} {Lp : List Nat} {cp : Nat} (h1 : Below wr.heap.size wr W) (h3 : Box2 W g (.bool np) (.slice ap Lp.length cp)) (h4 : IsNum 0 W (.agg #[.bool np, .slice ap Lp.length cp]) (r cj * D (cs.eraseIdx j))) (h5 : wr.heap.size ≤ g) =>
          (show TailD w m a L c np ap Lp cp (exP r cs D j) (r cj * D (cs.eraseIdx j)) g W from ⟨h3, h4, (unhide hb).trans (h1.mono (unhide hb).size), hx1.below h1 hx1.lt, hx0.below h1 hx0.lt, by have := hx1.lt; omega, (unhide hnum).below h1⟩))
        obtain ⟨nx, ax, cx, Lx⟩ := x
        simp only at HK
        have hjI : (j : Int) < (cl : Int) := by omega
        have hcRI : (cj : Int) < (R.length : Int) := by omega
        have hA0 : 0 < A'.length + 1 := by omega
        have hA0I : (0 : Int) < ((A'.length : Int) + 1) := by omega
        have hA1I : (1 : Int) ≤ ((A'.length : Int) + 1) := by omega
        clear hal hA1 hrR hrl hclk hcl1 hcl hlE
        clear hx1 hx0 hright hsv hbnd hx hslI HR HBND CDT HNM HCEL HCC2 HCC HAA HIC HERA HDD HNA X0 X1 B0 hnum hcj1 hcj2 hcj3
        go_wp2_with fail
        refine at_world (fun W => W = wr) rfl ?_
        rintro W0 e0
        subst e0
        have HKA := hide (fun wn o (h1 : Below W0.heap.size W0 wn) => unhide HK (wn.alloc o) (h1.alloc h1.size o))
        have HKS := hide (fun wn g u u' (h1 : Below W0.heap.size W0 wn) (h4 : W0.heap.size ≤ g) => unhide HK ((wn.setCell ⟨g, 0, none⟩ u).setCell ⟨g, 1, none⟩ u') ((h1.setCell (p := ⟨g, 0, none⟩) h4 u).setCell (p := ⟨g, 1, none⟩) h4 u'))
        have BXA := hide (fun wn (h1 : Below (W0.drew.alloc (.cells #[.bool false, .slice none 0 0] 30)).heap.size (W0.drew.alloc (.cells #[.bool false, .slice none 0 0] 30)) wn) => (Box2.new W0.drew (.bool false) (.slice none 0 0)).below h1 (by simp))
        have BXB := hide (fun wn wm (h2 : Below (wn.alloc (.cells #[.bool false, .slice none 0 0] 30)).heap.size (wn.alloc (.cells #[.bool false, .slice none 0 0] 30)) wm) => (Box2.new wn (.bool false) (.slice none 0 0)).below h2 (by simp))
        go_region_held3 (fun w' => Below W0.heap.size W0 w' ∧ w'.cell? ⟨ba, oa, none⟩ = some (.int .i64 (a0 : Int)) ∧ w'.cell? ⟨b, off + a0, none⟩ = some (.slice (some ⟨b1, o1, none⟩) R.length cr) ∧ w'.cell? ⟨bc, oc + j, none⟩ = some (.int .i64 (cj : Int)) ∧ w'.cell? ⟨b1, o1 + cj * 2, none⟩ = some (.bool nx) ∧ w'.cell? ⟨b1, o1 + cj * 2 + 1, none⟩ = some (.slice ax Lx.length cx))
          (first | assumption | exact unhide HK _ (Below.refl _ _).drew | exact unhide HK _ (by assumption) | exact unhide HKA _ _ (by assumption) | exact unhide HKA _ _ (And.left (by assumption)) | exact unhide HKS _ _ _ _ hBwm (by first | exact Nat.le_refl _ | exact Below.size (by assumption)) | fail "KK")
          (first | (go_at_call 36; refine (unhide CWO _ (And.left (by assumption))).mono ?_; rintro e wa ⟨aw, cw, rfl, iw, hb1⟩; have hBwa : Below W0.heap.size W0 wa := Below.trans (And.left (by assumption)) (hb1.mono (Below.size (And.left (by assumption)))); (first | (have xb := Box2.below xb hb1 xb.lt) | (have xb : Box2 wa W0.heap.size (.bool false) (.slice none 0 0) := unhide BXA _ hb1) | (have xb := unhide BXB _ _ hb1) | skip); have IWO := hide iw; clear iw; clear hb1) | (go_at_call 16; refine (unhide CDET _ _ _ (And.left (by assumption)) (by first | exact unhide IWO | exact (unhide IWO).below ((Below.refl _ _).alloc (Nat.le_refl _) _))).mono ?_; rintro e wd ⟨vd, rfl, id, hb1⟩; have hBwd : Below W0.heap.size W0 wd := Below.trans (And.left (by assumption)) (hb1.mono (Below.size (And.left (by assumption)))); (first | (have xb := Box2.below xb hb1 xb.lt) | (have xb : Box2 wd W0.heap.size (.bool false) (.slice none 0 0) := unhide BXA _ hb1) | (have xb := unhide BXB _ _ hb1) | skip); have IDT := hide id; clear id; clear hb1) | (go_at_call 25; refine (unhide CMUL _ _ (And.left (by assumption)) (by first | exact unhide IDT | exact (unhide IDT).below ((Below.refl _ _).alloc (Nat.le_refl _) _))).mono ?_; rintro e wm ⟨pv, rfl, ⟨np, ap, cp, Lp, rfl, ip⟩, hb1⟩; have hBwm : Below W0.heap.size W0 wm := Below.trans (And.left (by assumption)) (hb1.mono (Below.size (And.left (by assumption)))); (first | (have xb := Box2.below xb hb1 xb.lt) | (have xb : Box2 wm W0.heap.size (.bool false) (.slice none 0 0) := unhide BXA _ hb1) | (have xb := unhide BXB _ _ hb1) | skip); have IP := hide (show IsNum 0 wm (.agg #[.bool np, .slice ap Lp.length cp]) (r cj * D (cs.eraseIdx j)) from ⟨np, ap, cp, Lp, rfl, ip⟩); (first | (have y0 := xb.c0; have y1 := xb.c1; have f0 := xb.free 0; have f1 := xb.free 1) | skip); clear ip; clear hb1) | fail "NO ARM")
        all_goals
          first
            | refine at_then (TailD _ _ _ _ _ _ _ _ _ _ _ W0.heap.size) (unhide HT _ _ (And.left (by assumption)) (xb.put _ _) ((unhide IP).stb (Stb.put2 (Base := 0) xb (Nat.zero_le _) _ _)) (by first | exact Nat.le_refl _ | exact Below.size (by assumption))) ?_
            | refine at_then (TailD _ _ _ _ _ _ _ _ _ _ _ wa.heap.size) (unhide HT _ _ (And.left (by assumption)) (xb.put _ _) ((unhide IP).stb (Stb.put2 (Base := 0) xb (Nat.zero_le _) _ _)) (by first | exact Nat.le_refl _ | exact Below.size (by assumption))) ?_
            | refine at_then (TailD _ _ _ _ _ _ _ _ _ _ _ wd.heap.size) (unhide HT _ _ (And.left (by assumption)) (xb.put _ _) ((unhide IP).stb (Stb.put2 (Base := 0) xb (Nat.zero_le _) _ _)) (by first | exact Nat.le_refl _ | exact Below.size (by assumption))) ?_
            | refine at_then (TailD _ _ _ _ _ _ _ _ _ _ _ wm.heap.size) (unhide HT _ _ (And.left (by assumption)) (Box2.new _ _ _) ((unhide IP).below ((Below.refl _ _).alloc (Nat.le_refl _) _)) (Below.size (by assumption))) ?_
            | fail "NO WAY"
        all_goals
          rintro W ⟨xg, iq, hbW, x1, x0, hgl, isum⟩
          have kc0 := xg.c0; have kc1 := xg.c1; have d0 := x1.c0; have d1 := x1.c1; have g0 := xg.free 0; have g1 := xg.free 1
          have IS := hide isum; have IQ := hide iq; have BW := hide hbW; have XS1 := hide x1; have XS0 := hide x0; have XG := hide xg
          try clear y0 y1 f0 f1
          try clear xb
          clear xg iq isum hbW x1 x0 hBwm hBwd hBwa IP IDT IWO HT BXA BXB HKS HKA HK CWO CDET CMUL hb
          by_cases hpar : j % 2 = 1
          · have hp1 : ((j : Int).tmod 2 == 1) = true := by
              have : (j : Int).tmod 2 = ((j % 2 : Nat) : Int) := by simp [Int.tmod_eq_emod]
              rw [this, hpar]; rfl
            go_wp2_with fail
            refine (refNeg_num (unhide IQ) (unhide HBN).2.2.2).mono ?_
            rintro e w1 ⟨v1, rfl, ⟨n1, a1, c1, L1, rfl, i1⟩, hb1⟩
            have xg1 := (unhide XG).below hb1 (unhide XG).lt
            have x11 := (unhide XS1).below hb1 (unhide XS1).lt
            have x01 := (unhide XS0).below hb1 (unhide XS0).lt
            have hw1 := (unhide BW).trans (hb1.mono (unhide BW).size)
            have e0 := xg1.c0; have e1 := xg1.c1; have q0 := xg1.free 0; have q1 := xg1.free 1
            have xgp := xg1.put (.bool n1) (.slice a1 L1.length c1)
            have x1p := Box2.oth xg1 x11 hgl (.bool n1) (.slice a1 L1.length c1)
            have x0p := Box2.oth xg1 x01 (Nat.lt_of_succ_lt hgl) (.bool n1) (.slice a1 L1.length c1)
            have z0 := xgp.c0; have z1 := xgp.c1; have z2 := x1p.c0; have z3 := x1p.c1
            have st : Stb 0 w1 _ := Stb.put2 (Base := 0) xg1 (Nat.zero_le _) (.bool n1) (.slice a1 L1.length c1)
            have IQ2 := hide ((show IsNum 0 w1 (.agg #[.bool n1, .slice a1 L1.length c1]) (-(r cj * D (cs.eraseIdx j))) from ⟨n1, a1, c1, L1, rfl, i1⟩).stb st)
            have IS2 := hide (((unhide IS).below hb1).stb st)
            have BW2 := hide (below_put xg1 hw1 (Nat.le_of_lt (Nat.lt_of_succ_lt hgl)) (.bool n1) (.slice a1 L1.length c1))
            have XP1 := hide x1p; have XP0 := hide x0p
            clear i1 hb1 xg1 x11 x01 hw1 xgp x1p x0p st IQ IS BW XS1 XS0 XG kc0 kc1 d0 d1 g0 g1
            have IQ := IQ2; have IS := IS2; have BW := BW2; have XS1 := XP1; have XS0 := XP0
            clear IQ2 IS2 BW2 XP1 XP0
            go_wp2_with fail
            refine (refAdd_num0 (unhide IS) (unhide IQ) (unhide HBN).1 (by rw [Int.natAbs_neg]; exact (unhide HBN).2.2.2)).mono ?_
            rintro e w4 ⟨rr, rfl, ⟨n4, a4, c4, L4, rfl, i4⟩, hb4⟩
            have x4 := (unhide XS1).below hb4 (unhide XS1).lt
            have x5 := (unhide XS0).below hb4 (unhide XS0).lt
            have e0 := x4.c0; have e1 := x4.c1; have fr0 := x4.free 0; have fr1 := x4.free 1
            have N4 := hide ((show IsNum 0 w4 (.agg #[.bool n4, .slice a4 L4.length c4]) _ from ⟨n4, a4, c4, L4, rfl, i4⟩).stb (Stb.put2 (Base := 0) x4 (Nat.zero_le _) (.bool n4) (.slice a4 L4.length c4)))
            have B4 := hide ((((unhide BW).trans (hb4.mono (unhide BW).size)).setCell (p := ⟨w.heap.size + 1, 0, none⟩) (by simp) (.bool n4)).setCell (p := ⟨w.heap.size + 1, 1, none⟩) (by simp) (.slice a4 L4.length c4))
            have X4 := hide (x4.put (.bool n4) (.slice a4 L4.length c4)); have X5 := hide (x5.other (g := w.heap.size + 1) (by omega) (.bool n4) (.slice a4 L4.length c4))
            clear i4 hb4 x4 x5 XS1 XS0 IS IQ BW HBN
            go_wp2_with fail
            go_roundw
            case rel => exact ⟨j + 1, n4, a4, c4, L4, by omega, by go_num, unhide X4, unhide X5, hide (by rw [hres.out, if_pos hpar]; exact unhide N4), B4⟩
            case measure => simp [intOf]; omega
          · have hp1 : ((j : Int).tmod 2 == 1) = false := by
              have : (j : Int).tmod 2 = ((j % 2 : Nat) : Int) := by simp [Int.tmod_eq_emod]
              rw [this]; simp; omega
            go_wp2_with fail
            refine (refAdd_num0 (unhide IS) (unhide IQ) (unhide HBN).1 (unhide HBN).2.2.2).mono ?_
            rintro e w4 ⟨rr, rfl, ⟨n4, a4, c4, L4, rfl, i4⟩, hb4⟩
            have x4 := (unhide XS1).below hb4 (unhide XS1).lt
            have x5 := (unhide XS0).below hb4 (unhide XS0).lt
            have e0 := x4.c0; have e1 := x4.c1; have fr0 := x4.free 0; have fr1 := x4.free 1
            have N4 := hide ((show IsNum 0 w4 (.agg #[.bool n4, .slice a4 L4.length c4]) _ from ⟨n4, a4, c4, L4, rfl, i4⟩).stb (Stb.put2 (Base := 0) x4 (Nat.zero_le _) (.bool n4) (.slice a4 L4.length c4)))
            have B4 := hide ((((unhide BW).trans (hb4.mono (unhide BW).size)).setCell (p := ⟨w.heap.size + 1, 0, none⟩) (by simp) (.bool n4)).setCell (p := ⟨w.heap.size + 1, 1, none⟩) (by simp) (.slice a4 L4.length c4))
            have X4 := hide (x4.put (.bool n4) (.slice a4 L4.length c4)); have X5 := hide (x5.other (g := w.heap.size + 1) (by omega) (.bool n4) (.slice a4 L4.length c4))
            clear i4 hb4 x4 x5 XS1 XS0 IS IQ BW HBN
            go_wp2_with fail
            go_roundw
            case rel => exact ⟨j + 1, n4, a4, c4, L4, by omega, by go_num, unhide X4, unhide X5, hide (by rw [hres.out, if_neg hpar]; exact unhide N4), B4⟩
            case measure => simp [intOf]; omega
      · have hkk : cl = j := by omega
        have d0 := hx1.c0; have d1 := hx1.c1; have e0 := hx0.c0; have e1 := hx0.c1; have fr0 := hx0.free 0; have fr1 := hx0.free 1
        have N4 := hide ((unhide hnum).stb (Stb.put2 (Base := 0) hx0 (Nat.zero_le _) (.bool m) (.slice a L.length c)))
        have B4 := hide (((unhide hb).setCell (p := ⟨w.heap.size, 0, none⟩) (Nat.le_refl _) (.bool m)).setCell (p := ⟨w.heap.size, 1, none⟩) (Nat.le_refl _) (.slice a L.length c))
        rw [show j = cs.length by omega] at N4
        subst hkk
        clear hx1 hx0 hnum hb X0 X1 B0
        go_wp2_with fail
        refine bodyPost_ret (v := .agg #[.bool m, .slice a L.length c]) (by simp [results, Try.results16, go_sem, e0, e1]) rfl ⟨_, rfl, unhide N4, unhide B4⟩

end Go.Proofs.Ytlcidapdmgchoaa

/- The law ExactDets, walked. -/
namespace Go.Proofs.Ytlcidapdmgchoaa
open Go.RowKit
attribute [local go_sem ↓] Go.wp_at_zero Go.wp_at_succ

theorem natI_first (n : Nat) : natI (firstI n) = List.range n := by
  unfold natI firstI
  rw [List.map_map]
  refine (List.map_congr_left (g := id) (fun a _ => by simp)).trans (List.map_id _)
theorem first_in (n : Nat) : InI n (firstI n) := fun x hx => by
  obtain ⟨i, hi, rfl⟩ := List.mem_map.1 hx
  have := List.mem_range.1 hi
  omega
theorem dm_full (M : List Rw) (h : M.length ≤ 6) : dm M (2 ^ M.length - 1) = detD ((natI (firstI M.length)).map (valM M)) (natI (firstI M.length)) := by
  unfold dm sz
  rw [(set_full M.length h).1, natI_first, List.length_range]

set_option maxHeartbeats 4000000 in
theorem exactDets_walk (ao : Option Addr) (cap : Nat) (M : List Rw) (w : World) (h : MatAt w ao cap M) (hs : SmallM M) :
    Calls Try.prog 4 #[.slice ao M.length cap] w fun e w' => e = .returned (.bool true) ∧ Below w.heap.size w w' := by
  have CL := hide (fun w' h' => light_any ao cap M 10 w' h' hs)
  have CD := hide (fun w' h' => det_any ao cap M w' h' hs)
  have CC := hide (fun w' h' => refCheck_any ao cap M w' h' hs)
  have HM := hide h
  have hl := hs.1
  have hwl : width M ≤ 35184372088830 := hs.row 0
  by_cases hlit : litB 10 M = true
  rotate_left
  · have hlf : litB 10 M = false := by simpa using hlit
    rw [hlf] at CL
    clear h hs hlit hlf CD CC
    go_enter Try.func4, Try.ntmps4
    go_wp2_with fail
    refine (unhide CL _ (unhide HM)).mono ?_
    rintro e w1 ⟨rfl, hb1⟩
    have B1 := hide hb1
    clear hb1 CL HM
    go_wp2_with fail
    refine (awake3_any _).mono ?_
    rintro e w3 ⟨rfl, hb3⟩
    have B3 := hide ((unhide B1).trans (hb3.mono (unhide B1).size))
    clear hb3 B1
    go_wp2_with fail
    go_ret
    exact ⟨rfl, unhide B3⟩
  rw [hlit] at CL
  by_cases h0 : mChk M = 0
  · have hg := good_of h h0
    by_cases hw : width M = M.length
    · have hE : detE M = 0 := by unfold detE; rw [if_pos h0, if_pos hw]
      have hV : detV M = detD ((natI (firstI M.length)).map (valM M)) (natI (firstI M.length)) := by unfold detV; rw [if_pos hE, dm_full M hg.1]
      have hne := fun h0 => h.ne h0
      rw [hw] at hg
      have CF := hide (fun w' => first_any M.length w' (by have := hg.1; omega))
      have CR := hide (fun (w' : World) (a : Option Addr) (c : Nat) (hM' : MatAt w' ao cap M) (hi : IntsAt w' a c (firstI M.length)) => by
        have := refDet_any ao cap M M.length hg M.length (firstI M.length) (firstI M.length) a a c c w' hM' (length_firstI _) (length_firstI _) hg.1 (first_in _) (first_in _) hi hi
        rw [length_firstI] at this
        exact this)
      rw [hE, hV] at CD
      rw [h0] at CC
      generalize detD ((natI (firstI M.length)).map (valM M)) (natI (firstI M.length)) = dv at *
      have HWD : (rwAt M 0).R.length = M.length := hw
      generalize hml : M.length = ml at *
      clear h hs hlit h0 hg hw hE hV hml
      rcases Nat.eq_zero_or_pos ml with hz | hp
      · subst hz
        clear hne HWD
        go_enter Try.func4, Try.ntmps4
        go_wp2_with fail
        refine (unhide CL _ (unhide HM)).mono ?_
        rintro e w1 ⟨rfl, hb1⟩
        have B1 := hide hb1
        clear hb1 CL
        go_wp2_with fail
        refine (unhide CD _ ((unhide HM).below (unhide B1))).mono ?_
        rintro e w2 ⟨v, rfl, ⟨n2, a2, c2, L2, rfl, j2⟩, hb2⟩
        have B2 := hide ((unhide B1).trans (hb2.mono (unhide B1).size))
        have bx : Below w2.heap.size w2 (w2.alloc (.cells #[.bool n2, .slice a2 L2.length c2] 30)) := (Below.refl _ _).alloc (Nat.le_refl _) _
        have X2 := hide (Box2.new w2 (.bool n2) (.slice a2 L2.length c2))
        have I2 := hide ((show IsNum 0 w2 (.agg #[.bool n2, .slice a2 L2.length c2]) dv from ⟨n2, a2, c2, L2, rfl, j2⟩).below bx)
        have B2' := hide ((unhide B2).trans (bx.mono (unhide B2).size))
        clear hb2 j2 B1 CD bx B2
        go_wp2_with fail
        refine (unhide CC _ ((unhide HM).below (unhide B2'))).mono ?_
        rintro e w3 ⟨rfl, hb3⟩
        have B3 := hide ((unhide B2').trans (hb3.mono (unhide B2').size))
        have X3 := hide ((unhide X2).below hb3 (by simp))
        have I3 := hide ((unhide I2).below hb3)
        clear hb3 CC B2' X2 I2
        go_wp2_with fail
        refine (unhide CF _).mono ?_
        rintro e w4 ⟨a4, c4, rfl, i4, hb4⟩
        have B4 := hide ((unhide B3).trans (hb4.mono (unhide B3).size))
        have x4 := (unhide X3).below hb4 (unhide X3).lt
        have I4 := hide ((unhide I3).below hb4)
        have IF4 := hide i4
        have X4 := hide x4
        clear hb4 CF B3 X3 I3 i4 x4
        go_wp2_with fail
        refine at_world (fun W => W = w4) rfl ?_
        rintro W0 e0
        subst e0
        have HK := hide (fun w' (h : Below W0.heap.size W0 w') => show Below W0.heap.size W0 w' ∧ w'.cell? ⟨w2.heap.size, 0, none⟩ = some (.bool n2) ∧ w'.cell? ⟨w2.heap.size, 1, none⟩ = some (.slice a2 L2.length c2) from
          ⟨h, ((unhide X4).below h (unhide X4).lt).c0, ((unhide X4).below h (unhide X4).lt).c1⟩)
        have CR' := hide (fun w' (h : Below W0.heap.size W0 w') => unhide CR w' a4 c4 ((unhide HM).below ((unhide B4).trans (h.mono (unhide B4).size))) ((unhide IF4).below h))
        clear CR
        go_region_held3 (fun w' => Below W0.heap.size W0 w' ∧ w'.cell? ⟨w2.heap.size, 0, none⟩ = some (.bool n2) ∧ w'.cell? ⟨w2.heap.size, 1, none⟩ = some (.slice a2 L2.length c2))
          (first | assumption | exact unhide HK _ (Below.refl _ _).drew | exact unhide HK _ (by assumption) | fail "KK")
          (first | (go_at_call 16; refine (unhide CR' _ (And.left (by assumption))).mono ?_; rintro e wn ⟨v, rfl, iv, hb1⟩; have hBn : Below W0.heap.size W0 wn := Below.trans (And.left (by assumption)) (hb1.mono (Below.size (And.left (by assumption)))); have IV := hide iv; clear hb1 iv) | (go_at_call 14; refine (same_yes ((unhide I4).below (And.left (by assumption))) (unhide IV) rfl).mono ?_; rintro e wn ⟨rfl, hb1⟩; have hBn : Below W0.heap.size W0 wn := Below.trans (And.left (by assumption)) (hb1.mono (Below.size (And.left (by assumption)))); clear hb1) | (go_at_call 11; refine (awake3_any _).mono ?_; rintro e wn ⟨rfl, hb1⟩; have hBn : Below W0.heap.size W0 wn := Below.trans (And.left (by assumption)) (hb1.mono (Below.size (And.left (by assumption)))); clear hb1) | fail "NO ARM")
        go_wp2
        go_ret
        exact ⟨rfl, (unhide B4).trans (Below.mono (And.left (by assumption)) (unhide B4).size)⟩
      · obtain ⟨b, off, rfl, hbb, hc⟩ := hne hp
        have hc0 := hc 0 hp
        rw [HWD, Nat.add_zero] at hc0
        generalize (rwAt M 0).ao = a0 at *
        generalize (rwAt M 0).cap = c0 at *
        have HCK := hide (fun w' (hw : Below w.heap.size w w') => (show w'.cell? ⟨b, off, none⟩ = some (.slice a0 ml c0) by rw [hw.cell (p := ⟨b, off, none⟩) hbb]; exact hc0))
        have hpI : (0 : Int) < (ml : Int) := by omega
        clear hne hc hc0 HWD
        go_enter Try.func4, Try.ntmps4
        go_wp2_with fail
        refine (unhide CL _ (unhide HM)).mono ?_
        rintro e w1 ⟨rfl, hb1⟩
        have B1 := hide hb1
        clear hb1 CL
        go_wp2_with fail
        refine (unhide CD _ ((unhide HM).below (unhide B1))).mono ?_
        rintro e w2 ⟨v, rfl, ⟨n2, a2, c2, L2, rfl, j2⟩, hb2⟩
        have B2 := hide ((unhide B1).trans (hb2.mono (unhide B1).size))
        have bx : Below w2.heap.size w2 (w2.alloc (.cells #[.bool n2, .slice a2 L2.length c2] 30)) := (Below.refl _ _).alloc (Nat.le_refl _) _
        have X2 := hide (Box2.new w2 (.bool n2) (.slice a2 L2.length c2))
        have I2 := hide ((show IsNum 0 w2 (.agg #[.bool n2, .slice a2 L2.length c2]) dv from ⟨n2, a2, c2, L2, rfl, j2⟩).below bx)
        have B2' := hide ((unhide B2).trans (bx.mono (unhide B2).size))
        clear hb2 j2 B1 CD bx B2
        go_wp2_with fail
        refine (unhide CC _ ((unhide HM).below (unhide B2'))).mono ?_
        rintro e w3 ⟨rfl, hb3⟩
        have B3 := hide ((unhide B2').trans (hb3.mono (unhide B2').size))
        have X3 := hide ((unhide X2).below hb3 (by simp))
        have I3 := hide ((unhide I2).below hb3)
        clear hb3 CC B2' X2 I2
        have hck := unhide HCK _ (unhide B3)
        go_wp2_with fail
        refine (unhide CF _).mono ?_
        rintro e w4 ⟨a4, c4, rfl, i4, hb4⟩
        have B4 := hide ((unhide B3).trans (hb4.mono (unhide B3).size))
        have x4 := (unhide X3).below hb4 (unhide X3).lt
        have I4 := hide ((unhide I3).below hb4)
        have IF4 := hide i4
        have X4 := hide x4
        clear hb4 CF B3 X3 I3 i4 x4
        go_wp2_with fail
        refine at_world (fun W => W = w4) rfl ?_
        rintro W0 e0
        subst e0
        have HK := hide (fun w' (h : Below W0.heap.size W0 w') => show Below W0.heap.size W0 w' ∧ w'.cell? ⟨w2.heap.size, 0, none⟩ = some (.bool n2) ∧ w'.cell? ⟨w2.heap.size, 1, none⟩ = some (.slice a2 L2.length c2) from
          ⟨h, ((unhide X4).below h (unhide X4).lt).c0, ((unhide X4).below h (unhide X4).lt).c1⟩)
        have CR' := hide (fun w' (h : Below W0.heap.size W0 w') => unhide CR w' a4 c4 ((unhide HM).below ((unhide B4).trans (h.mono (unhide B4).size))) ((unhide IF4).below h))
        clear CR
        go_region_held3 (fun w' => Below W0.heap.size W0 w' ∧ w'.cell? ⟨w2.heap.size, 0, none⟩ = some (.bool n2) ∧ w'.cell? ⟨w2.heap.size, 1, none⟩ = some (.slice a2 L2.length c2))
          (first | assumption | exact unhide HK _ (Below.refl _ _).drew | exact unhide HK _ (by assumption) | fail "KK")
          (first | (go_at_call 16; refine (unhide CR' _ (And.left (by assumption))).mono ?_; rintro e wn ⟨v, rfl, iv, hb1⟩; have hBn : Below W0.heap.size W0 wn := Below.trans (And.left (by assumption)) (hb1.mono (Below.size (And.left (by assumption)))); have IV := hide iv; clear hb1 iv) | (go_at_call 14; refine (same_yes ((unhide I4).below (And.left (by assumption))) (unhide IV) rfl).mono ?_; rintro e wn ⟨rfl, hb1⟩; have hBn : Below W0.heap.size W0 wn := Below.trans (And.left (by assumption)) (hb1.mono (Below.size (And.left (by assumption)))); clear hb1) | (go_at_call 11; refine (awake3_any _).mono ?_; rintro e wn ⟨rfl, hb1⟩; have hBn : Below W0.heap.size W0 wn := Below.trans (And.left (by assumption)) (hb1.mono (Below.size (And.left (by assumption)))); clear hb1) | fail "NO ARM")
        go_wp2
        go_ret
        exact ⟨rfl, (unhide B4).trans (Below.mono (And.left (by assumption)) (unhide B4).size)⟩
    · have hE : detE M = 3 := by unfold detE; rw [if_pos h0, if_neg hw]
      have hV : detV M = 0 := by unfold detV; rw [if_neg (by rw [hE]; decide)]
      have hp : 0 < M.length := by
        rcases Nat.eq_zero_or_pos M.length with e | e
        · exact absurd (by rw [e]; unfold width rwAt; rw [List.length_eq_zero_iff.1 e]; simp [Rw.nil]) hw
        · exact e
      obtain ⟨b, off, rfl, hbb, hc⟩ := h.ne hp
      have hc0 := hc 0 hp
      rw [Nat.add_zero] at hc0
      change _ = some (Value.slice _ (width M) _) at hc0
      rw [hE, hV] at CD
      rw [h0] at CC
      generalize (rwAt M 0).ao = a0 at *
      generalize (rwAt M 0).cap = c0 at *
      generalize width M = wd at *
      have hwI : ((wd : Int) == (M.length : Int)) = false := by simp; omega
      generalize hml : M.length = ml at *
      have HCK := hide (fun w' (hw : Below w.heap.size w w') => (show w'.cell? ⟨b, off, none⟩ = some (.slice a0 wd c0) by rw [hw.cell (p := ⟨b, off, none⟩) hbb]; exact hc0))
      have hpI : (0 : Int) < (ml : Int) := by omega
      clear h hs hlit h0 hg hw hE hV hml hc hc0
      go_enter Try.func4, Try.ntmps4
      go_wp2_with fail
      refine (unhide CL _ (unhide HM)).mono ?_
      rintro e w1 ⟨rfl, hb1⟩
      have B1 := hide hb1
      clear hb1 CL
      go_wp2_with fail
      refine (unhide CD _ ((unhide HM).below (unhide B1))).mono ?_
      rintro e w2 ⟨v, rfl, ⟨n2, a2, c2, L2, rfl, j2⟩, hb2⟩
      have B2 := hide ((unhide B1).trans (hb2.mono (unhide B1).size))
      have bx : Below w2.heap.size w2 (w2.alloc (.cells #[.bool n2, .slice a2 L2.length c2] 30)) := (Below.refl _ _).alloc (Nat.le_refl _) _
      have X2 := hide (Box2.new w2 (.bool n2) (.slice a2 L2.length c2))
      have I2 := hide ((show IsNum 0 w2 (.agg #[.bool n2, .slice a2 L2.length c2]) 0 from ⟨n2, a2, c2, L2, rfl, j2⟩).below bx)
      have B2' := hide ((unhide B2).trans (bx.mono (unhide B2).size))
      clear hb2 j2 B1 CD bx B2
      go_wp2_with fail
      refine (unhide CC _ ((unhide HM).below (unhide B2'))).mono ?_
      rintro e w3 ⟨rfl, hb3⟩
      have B3 := hide ((unhide B2').trans (hb3.mono (unhide B2').size))
      have X3 := hide ((unhide X2).below hb3 (by simp))
      have I3 := hide ((unhide I2).below hb3)
      clear hb3 CC B2' X2 I2
      have hck := unhide HCK _ (unhide B3)
      have d0 := (unhide X3).c0; have d1 := (unhide X3).c1
      go_wp2_with fail
      refine (same_yes (unhide I3) (IsNum.zero 0 _ none 0) rfl).mono ?_
      rintro e w4 ⟨rfl, hb4⟩
      have B4 := hide ((unhide B3).trans (hb4.mono (unhide B3).size))
      clear hb4 B3 X3 I3 d0 d1
      go_wp2_with fail
      refine (awake3_any _).mono ?_
      rintro e w5 ⟨rfl, hb5⟩
      have B5 := hide ((unhide B4).trans (hb5.mono (unhide B4).size))
      clear hb5 B4
      go_wp2_with fail
      go_ret
      exact ⟨rfl, unhide B5⟩
  · have hE : detE M = mChk M := by unfold detE; rw [if_neg h0]
    have hV : detV M = 0 := by unfold detV; rw [if_neg (by rw [hE]; exact h0)]
    rw [hE, hV] at CD
    generalize mChk M = ce at *
    have hne : (ce == 0) = false := by simp; exact h0
    have hee : (ce == ce) = true := by simp
    generalize hml : M.length = ml at *
    clear h hs hlit hE hV hml
    go_enter Try.func4, Try.ntmps4
    go_wp2_with fail
    refine (unhide CL _ (unhide HM)).mono ?_
    rintro e w1 ⟨rfl, hb1⟩
    have B1 := hide hb1
    clear hb1 CL
    go_wp2_with fail
    refine (unhide CD _ ((unhide HM).below (unhide B1))).mono ?_
    rintro e w2 ⟨v, rfl, ⟨n2, a2, c2, L2, rfl, j2⟩, hb2⟩
    have B2 := hide ((unhide B1).trans (hb2.mono (unhide B1).size))
    have bx : Below w2.heap.size w2 (w2.alloc (.cells #[.bool n2, .slice a2 L2.length c2] 30)) := (Below.refl _ _).alloc (Nat.le_refl _) _
    have X2 := hide (Box2.new w2 (.bool n2) (.slice a2 L2.length c2))
    have I2 := hide ((show IsNum 0 w2 (.agg #[.bool n2, .slice a2 L2.length c2]) 0 from ⟨n2, a2, c2, L2, rfl, j2⟩).below bx)
    have B2' := hide ((unhide B2).trans (bx.mono (unhide B2).size))
    clear hb2 j2 B1 CD bx B2
    go_wp2_with fail
    refine (unhide CC _ ((unhide HM).below (unhide B2'))).mono ?_
    rintro e w3 ⟨rfl, hb3⟩
    have B3 := hide ((unhide B2').trans (hb3.mono (unhide B2').size))
    have X3 := hide ((unhide X2).below hb3 (by simp))
    have I3 := hide ((unhide I2).below hb3)
    clear hb3 CC B2' X2 I2
    have d0 := (unhide X3).c0; have d1 := (unhide X3).c1
    go_wp2_with fail
    refine (same_yes (unhide I3) (IsNum.zero 0 _ none 0) rfl).mono ?_
    rintro e w4 ⟨rfl, hb4⟩
    have B4 := hide ((unhide B3).trans (hb4.mono (unhide B3).size))
    clear hb4 B3 X3 I3 d0 d1
    go_wp2_with fail
    refine (awake3_any _).mono ?_
    rintro e w5 ⟨rfl, hb5⟩
    have B5 := hide ((unhide B4).trans (hb5.mono (unhide B4).size))
    clear hb5 B4
    go_wp2_with fail
    go_ret
    exact ⟨rfl, unhide B5⟩

end Go.Proofs.Ytlcidapdmgchoaa

/- What the program says of rows exchanged and of rows turned. -/
namespace Go.Proofs.Ytlcidapdmgchoaa

/-- Minors look at their rows' and columns' numbers only. -/
theorem minorD_ext {a b : Nat → Nat → Int} : ∀ (I C : List Nat), (∀ i ∈ I, ∀ c ∈ C, a i c = b i c) → minorD a I C = minorD b I C
  | [], _, _ => rfl
  | i :: I, C, h => by
    show exD (a i) C (detD (I.map a)) = exD (b i) C (detD (I.map b))
    rw [exD_row (a i) (b i) C _ (fun c hc => h i (by simp) c hc)]
    refine exD_congr _ _ _ _ (fun l hl _ => ?_)
    exact minorD_ext I l (fun k hk c hc => h k (by simp [hk]) c (hl.mem hc))

theorem van_ext {k m n : Nat} {a b : Nat → Nat → Int} (h : ∀ i, i < m → ∀ c, c < n → a i c = b i c) (hv : Van k a m n) : Van k b m n := by
  intro I C hI hC lI lC
  rw [← minorD_ext I C (fun i hi c hc => h i (hI.2 i hi) c (hC.2 c hc))]
  exact hv I C hI hC lI lC

theorem rank_ext {r m n : Nat} {a b : Nat → Nat → Int} (h : ∀ i, i < m → ∀ c, c < n → a i c = b i c) (hr : IsRank r a m n) : IsRank r b m n :=
  ⟨fun hv => hr.1 (van_ext (fun i hi c hc => (h i hi c hc).symm) hv), van_ext h hr.2⟩

/-- Rows made of good rows' numbers are good. -/
theorem chk_of {M N : List Rw} {n : Nat} (h : mChk M = 0) (h6 : N.length ≤ 6) (hn : n ≤ 6) (hr : ∀ j, j < N.length → (rwAt N j).R.length = n ∧ ∀ x ∈ (rwAt N j).R, ∃ i, i < M.length ∧ x ∈ (rwAt M i).R) : mChk N = 0 := by
  obtain ⟨_, h2, h3⟩ := mChk_zero h
  have hw : ∀ j, j < N.length → width N = n := fun j hj => (hr 0 (by omega)).1
  have hs : shapeB N = true := shape_true h6 (fun j hj => ⟨by rw [(hr j hj).1]; exact hn, by rw [(hr j hj).1, hw j hj]⟩)
  have hx : ∀ p : Nm → Bool, (M.all (fun r => r.R.all p)) = true → (N.all (fun r => r.R.all p)) = true := by
    intro p hp
    refine List.all_eq_true.2 (fun r hrN => List.all_eq_true.2 (fun x hxr => ?_))
    obtain ⟨j, hj, rfl⟩ := List.getElem_of_mem hrN
    have e : N[j] = rwAt N j := by unfold rwAt; rw [List.getElem?_eq_getElem hj]; rfl
    rw [e] at hxr
    obtain ⟨i, hi, hm⟩ := (hr j hj).2 x hxr
    exact List.all_eq_true.1 (List.all_eq_true.1 hp _ (rwAt_mem hi)) _ hm
  unfold mChk
  rw [hs, hx _ h2, hx _ h3]
  rfl

/-- A square that Check lets through: its determinant. -/
theorem detV_of {M : List Rw} (h : mChk M = 0) (hw : width M = M.length) (h6 : M.length ≤ 6) : detE M = 0 ∧ detV M = minorD (valM M) (List.range M.length) (List.range M.length) := by
  have hE : detE M = 0 := by unfold detE; rw [if_pos h, if_pos hw]
  refine ⟨hE, ?_⟩
  unfold detV minorD
  rw [if_pos hE, dm_full M h6, natI_first]

/-- Rows i and j exchanged. -/
def swapR (M : List Rw) (i j : Nat) : List Rw := (M.set i (rwAt M j)).set j (rwAt M i)
theorem swapR_len (M : List Rw) (i j : Nat) : (swapR M i j).length = M.length := by simp [swapR]
theorem swapR_at {M : List Rw} {i j k : Nat} (hi : i < M.length) (hj : j < M.length) (hk : k < M.length) : rwAt (swapR M i j) k = if k = j then rwAt M i else if k = i then rwAt M j else rwAt M k := by
  unfold swapR
  conv => lhs; unfold rwAt
  by_cases e : k = j
  · subst e
    rw [if_pos rfl, List.getElem?_set_self (by simpa using hk)]; rfl
  · rw [if_neg e, List.getElem?_set_ne (fun h => e h.symm)]
    by_cases e2 : k = i
    · subst e2
      rw [if_pos rfl, List.getElem?_set_self hk]; rfl
    · rw [if_neg e2, List.getElem?_set_ne (fun h => e2 h.symm)]; rfl

theorem swap_says {M : List Rw} {i j n : Nat} (h : mChk M = 0) (hn : M.length = n) (hw : width M = n) (hg : ∀ k, k < n → (rwAt M k).R.length = n) (h6 : n ≤ 6) (hi : i < n) (hj : j < n) :
    detE (swapR M i j) = 0 ∧ detV (swapR M i j) = if i = j then detV M else - detV M := by
  have hl : (swapR M i j).length = n := by rw [swapR_len, hn]
  have hat : ∀ k, k < n → ∃ q, q < n ∧ rwAt (swapR M i j) k = rwAt M q := by
    intro k hk
    rw [swapR_at (by omega) (by omega) (by omega)]
    by_cases e : k = j
    · rw [if_pos e]; exact ⟨i, hi, rfl⟩
    · rw [if_neg e]
      by_cases e2 : k = i
      · rw [if_pos e2]; exact ⟨j, hj, rfl⟩
      · rw [if_neg e2]; exact ⟨k, hk, rfl⟩
  have hc : mChk (swapR M i j) = 0 := chk_of (n := n) h (by omega) h6 (fun k hk => by
    obtain ⟨q, hq, e⟩ := hat k (by omega)
    rw [e]
    exact ⟨hg q hq, fun x hx => ⟨q, by omega, hx⟩⟩)
  have hwN : width (swapR M i j) = (swapR M i j).length := by
    obtain ⟨q, hq, e⟩ := hat 0 (by omega)
    unfold width
    rw [e, hl]; exact hg q hq
  obtain ⟨d1, d2⟩ := detV_of hc hwN (by omega)
  obtain ⟨_, d4⟩ := detV_of h (by omega) (by omega)
  refine ⟨d1, ?_⟩
  rw [d2, d4, hl, hn]
  unfold minorD
  have hv : ∀ {A B : List Rw} {p q : Nat}, rwAt A p = rwAt B q → valM A p = valM B q := by
    intro A B p q e
    funext c
    unfold valM entry
    rw [e]
  by_cases hij : i = j
  · rw [if_pos hij]
    subst hij
    congr 1
    refine List.map_congr_left (fun k hk => hv ?_)
    have hk := List.mem_range.1 hk
    rw [swapR_at (by omega) (by omega) (by omega)]
    by_cases e : k = i
    · subst e; rw [if_pos rfl]
    · rw [if_neg e, if_neg e]
  · rw [if_neg hij]
    have hL : ∀ k, k < n → ((List.range n).map (valM M))[k]? = some (valM M k) := fun k hk => by
      rw [List.getElem?_map, List.getElem?_range hk]; rfl
    rw [← detD_set hij (hL i hi) (hL j hj)]
    congr 1
    apply List.ext_getElem?
    intro k
    rcases Nat.lt_or_ge k n with hk | hk
    · rw [List.getElem?_map, List.getElem?_range hk]
      have e0 := swapR_at (M := M) (i := i) (j := j) (k := k) (by omega) (by omega) (by omega)
      by_cases e : k = j
      · subst e
        rw [if_pos rfl] at e0
        rw [List.getElem?_set_self (by simpa using hk)]
        show some _ = _
        rw [hv e0]
      · rw [if_neg e] at e0
        rw [List.getElem?_set_ne (fun h => e h.symm)]
        by_cases e2 : k = i
        · subst e2
          rw [if_pos rfl] at e0
          rw [List.getElem?_set_self (by simpa using hk)]
          show some _ = _
          rw [hv e0]
        · rw [if_neg e2] at e0
          rw [List.getElem?_set_ne (fun h => e2 h.symm), hL k hk]
          show some _ = _
          rw [hv e0]
    · rw [List.getElem?_eq_none (by simpa using hk), List.getElem?_eq_none (by simpa using hk)]

/-- The columns as rows: what they say. -/
theorem turn_val {M N : List Rw} {n : Nat} (hT : TurnIs N M n) {i c : Nat} (hi : i < n) (hc : c < M.length) : valM N i c = valM M c i := by
  have e : entry N i c = entry M c i := by
    conv => lhs; unfold entry nmAt
    rw [hT.2 i hi]
    unfold colOf
    rw [List.getElem?_map, List.getElem?_range hc]; rfl
  unfold valM
  rw [e]

theorem turn_chk {M N : List Rw} {n : Nat} (hT : TurnIs N M n) (h : mChk M = 0) (hg : ∀ k, k < M.length → (rwAt M k).R.length = n) (hm6 : M.length ≤ 6) (hn6 : n ≤ 6) : mChk N = 0 ∧ (0 < n → width N = M.length) := by
  have hl := hT.1
  refine ⟨chk_of (n := M.length) h (by omega) hm6 (fun j hj => ?_), fun h0 => ?_⟩
  · rw [hT.2 j (by omega)]
    refine ⟨colOf_len _ _ _, fun x hx => ?_⟩
    unfold colOf at hx
    obtain ⟨c, hc, rfl⟩ := List.mem_map.1 hx
    have hc := List.mem_range.1 hc
    exact ⟨c, hc, nmAt_mem (by rw [hg c hc]; omega)⟩
  · unfold width
    rw [hT.2 0 h0]
    exact colOf_len _ _ _

theorem turn_det {M N : List Rw} {n : Nat} (hT : TurnIs N M n) (h : mChk M = 0) (hn : M.length = n) (hw : width M = n) (hg : ∀ k, k < n → (rwAt M k).R.length = n) (h6 : n ≤ 6) (h0 : 0 < n) : detE N = 0 ∧ detV N = detV M := by
  subst hn
  obtain ⟨t1, t2⟩ := turn_chk hT h hg h6 h6
  have hl := hT.1
  obtain ⟨d1, d2⟩ := detV_of t1 (by rw [t2 h0, hl]) (by omega)
  obtain ⟨_, d4⟩ := detV_of h hw h6
  refine ⟨d1, ?_⟩
  rw [d2, d4, hl, minorD_ext (b := fun j i => valM M i j) _ _ (fun i hi c hc => turn_val hT (List.mem_range.1 hi) (List.mem_range.1 hc))]
  exact (detD_turn (valM M) M.length (List.range M.length) (List.range M.length) (by simp) (by simp)).symm

theorem turn_rank {M N : List Rw} {n r s : Nat} (hT : TurnIs N M n) (hr : IsRank r (valM M) M.length n) (hs : IsRank s (valM N) n M.length) : r = s :=
  (rank_ext (fun _ hi _ hc => (turn_val hT hi hc).symm) (rank_turn hr)).unique hs

theorem full_det {M : List Rw} {n r : Nat} (h : mChk M = 0) (hn : M.length = n) (hw : width M = n) (h6 : n ≤ 6) (hr : IsRank r (valM M) M.length (width M)) : r = n ↔ detV M ≠ 0 := by
  subst hn
  rw [hw] at hr
  rw [(detV_of h hw h6).2]
  exact rank_full hr
end Go.Proofs.Ytlcidapdmgchoaa

/- The law ExactTurns, walked: where it has nothing to ask. -/
namespace Go.Proofs.Ytlcidapdmgchoaa
open Go.RowKit
attribute [local go_sem ↓] Go.wp_at_zero Go.wp_at_succ

set_option maxHeartbeats 4000000 in
theorem exactTurns_away (ao : Option Addr) (cap : Nat) (M : List Rw) (x y : Int) (w : World) (h : MatAt w ao cap M) (hs : SmallM M) (hno : ¬ (litB 4 M = true ∧ mChk M = 0 ∧ M.length ≠ 0 ∧ width M = M.length)) :
    Calls Try.prog 7 #[.slice ao M.length cap, .int .i64 x, .int .i64 y] w fun e w' => e = .returned (.bool true) ∧ Below w.heap.size w w' := by
  have CL := hide (fun w' h' => light_any ao cap M 4 w' h' hs)
  have CC := hide (fun w' h' => refCheck_any ao cap M w' h' hs)
  have HM := hide h
  have hl := hs.1
  have hwl : width M ≤ 35184372088830 := hs.row 0
  by_cases hlit : litB 4 M = true
  rotate_left
  · have hlf : litB 4 M = false := by simpa using hlit
    rw [hlf] at CL
    clear h hs hlit hlf CC hno
    go_enter Try.func7, Try.ntmps7
    go_wp2_with fail
    refine (unhide CL _ (unhide HM)).mono ?_
    rintro e w1 ⟨rfl, hb1⟩
    have B1 := hide hb1
    clear hb1 CL HM
    go_wp2_with fail
    refine (awake3_any _).mono ?_
    rintro e w3 ⟨rfl, hb3⟩
    have B3 := hide ((unhide B1).trans (hb3.mono (unhide B1).size))
    clear hb3 B1
    go_wp2_with fail
    go_ret
    exact ⟨rfl, unhide B3⟩
  rw [hlit] at CL
  by_cases h0 : mChk M = 0
  rotate_left
  · generalize mChk M = ce at *
    have hne : (ce == 0) = false := by simp; exact h0
    have hne2 : (ce != 0) = true := by simp [bne, hne]
    clear h hs hlit hno
    go_enter Try.func7, Try.ntmps7
    go_wp2_with fail
    refine (unhide CL _ (unhide HM)).mono ?_
    rintro e w1 ⟨rfl, hb1⟩
    have B1 := hide hb1
    clear hb1 CL
    go_wp2_with fail
    refine (unhide CC _ ((unhide HM).below (unhide B1))).mono ?_
    rintro e w2 ⟨rfl, hb2⟩
    have B2 := hide ((unhide B1).trans (hb2.mono (unhide B1).size))
    clear hb2 B1 HM CC
    go_wp2_with fail
    refine (awake3_any _).mono ?_
    rintro e w3 ⟨rfl, hb3⟩
    have B3 := hide ((unhide B2).trans (hb3.mono (unhide B2).size))
    clear hb3 B2
    go_wp2_with fail
    go_ret
    exact ⟨rfl, unhide B3⟩
  rw [h0] at CC
  by_cases hz : M.length = 0
  · generalize M.length = ml at *
    subst hz
    clear h hs hlit hno h0
    go_enter Try.func7, Try.ntmps7
    go_wp2_with fail
    refine (unhide CL _ (unhide HM)).mono ?_
    rintro e w1 ⟨rfl, hb1⟩
    have B1 := hide hb1
    clear hb1 CL
    go_wp2_with fail
    refine (unhide CC _ ((unhide HM).below (unhide B1))).mono ?_
    rintro e w2 ⟨rfl, hb2⟩
    have B2 := hide ((unhide B1).trans (hb2.mono (unhide B1).size))
    clear hb2 B1 HM CC
    go_wp2_with fail
    refine (awake3_any _).mono ?_
    rintro e w3 ⟨rfl, hb3⟩
    have B3 := hide ((unhide B2).trans (hb3.mono (unhide B2).size))
    clear hb3 B2
    go_wp2_with fail
    go_ret
    exact ⟨rfl, unhide B3⟩
  have hw : ¬ width M = M.length := fun hw => hno ⟨hlit, h0, hz, hw⟩
  have hp : 0 < M.length := by omega
  obtain ⟨b, off, rfl, hbb, hc⟩ := h.ne hp
  have hc0 := hc 0 hp
  rw [Nat.add_zero] at hc0
  change _ = some (Value.slice _ (width M) _) at hc0
  generalize (rwAt M 0).ao = a0 at *
  generalize (rwAt M 0).cap = c0 at *
  generalize width M = wd at *
  have hwI : ((wd : Int) == (M.length : Int)) = false := by simp; omega
  generalize hml : M.length = ml at *
  have hmI : ((ml : Int) == 0) = false := by simp; omega
  have HCK := hide (fun w' (hw : Below w.heap.size w w') => (show w'.cell? ⟨b, off, none⟩ = some (.slice a0 wd c0) by rw [hw.cell (p := ⟨b, off, none⟩) hbb]; exact hc0))
  have hpI : (0 : Int) < (ml : Int) := by omega
  clear h hs hlit h0 hw hml hc hc0 hno
  go_enter Try.func7, Try.ntmps7
  go_wp2_with fail
  refine (unhide CL _ (unhide HM)).mono ?_
  rintro e w1 ⟨rfl, hb1⟩
  have B1 := hide hb1
  clear hb1 CL
  go_wp2_with fail
  refine (unhide CC _ ((unhide HM).below (unhide B1))).mono ?_
  rintro e w2 ⟨rfl, hb2⟩
  have B2 := hide ((unhide B1).trans (hb2.mono (unhide B1).size))
  clear hb2 B1 HM CC
  have hck := unhide HCK _ (unhide B2)
  go_wp2_with fail
  refine (awake3_any _).mono ?_
  rintro e w3 ⟨rfl, hb3⟩
  have B3 := hide ((unhide B2).trans (hb3.mono (unhide B2).size))
  clear hb3 B2
  go_wp2_with fail
  go_ret
  exact ⟨rfl, unhide B3⟩
end Go.Proofs.Ytlcidapdmgchoaa

/- The law ExactTurns, walked: where it asks. -/
namespace Go.Proofs.Ytlcidapdmgchoaa
open Go.RowKit
attribute [local go_sem ↓] Go.wp_at_zero Go.wp_at_succ

/-- A copy of rows in a block of the call's own. -/
def CopyAt (w w' : World) (g c : Nat) (N : List Rw) : Prop :=
  w.heap.size ≤ g ∧ N.length ≤ c ∧ (∀ r ∈ N, NumsAt w r.ao r.cap r.R) ∧ (∃ cur, w'.heap[g]? = some (.cells cur 33 (0, 0)) ∧ ∀ i, i < N.length → cur[i]? = some (rwAt N i).v) ∧ Below w.heap.size w w'

theorem CopyAt.cell {w w' : World} {g c : Nat} {N : List Rw} (h : CopyAt w w' g c N) {i : Nat} (hi : i < N.length) : w'.cell? ⟨g, i, none⟩ = some (.slice (rwAt N i).ao (rwAt N i).R.length (rwAt N i).cap) := by
  obtain ⟨_, _, _, ⟨cur, h1, h2⟩, _⟩ := h
  rw [cell_of_row w' g i _ _ _ h1]
  exact h2 i hi
theorem CopyAt.free {w w' : World} {g c : Nat} {N : List Rw} (h : CopyAt w w' g c N) (i : Nat) : w'.frozen? ⟨g, i, none⟩ = false := by
  obtain ⟨_, _, _, ⟨cur, h1, _⟩, _⟩ := h
  exact frozen_of_row w' g i _ _ h1
theorem CopyAt.mat {w w' : World} {g c : Nat} {N : List Rw} (h : CopyAt w w' g c N) : MatAt w' (some ⟨g, 0, none⟩) c N := by
  refine ⟨h.2.1, fun r hr => (h.2.2.1 r hr).below h.2.2.2.2, .inr ⟨g, 0, rfl, ?_, fun i hi => ?_⟩⟩
  · obtain ⟨cur, h1, _⟩ := h.2.2.2.1
    exact (Array.getElem?_eq_some_iff.1 h1).1
  · rw [Nat.zero_add]; exact h.cell hi
theorem CopyAt.store {w w' : World} {g c : Nat} {N : List Rw} (h : CopyAt w w' g c N) {i : Nat} (r : Rw) (hr : NumsAt w r.ao r.cap r.R) : CopyAt w (w'.setCell ⟨g, i, none⟩ (.slice r.ao r.R.length r.cap)) g c (N.set i r) := by
  obtain ⟨k1, k2, k3, ⟨cur, k4, k5⟩, k6⟩ := h
  refine ⟨k1, by simpa using k2, fun q hq => ?_, ⟨_, heap_setCell_same w' g i _ _ _ k4, fun j hj => ?_⟩, k6.setCell (p := ⟨g, i, none⟩) k1 _⟩
  · rcases List.mem_or_eq_of_mem_set hq with h | h
    · exact k3 q h
    · rw [h]; exact hr
  · have hj' : j < N.length := by simpa using hj
    unfold rwAt
    by_cases e : i = j
    · subst e
      have hs : i < cur.size := by
        have := k5 i hj'
        exact (Array.getElem?_eq_some_iff.1 this).1
      rw [List.getElem?_set_self hj']
      simp [hs, Rw.v]
    · rw [List.getElem?_set_ne e]
      have := k5 j hj'
      unfold rwAt at this
      rw [← this]
      simp [e]
/-- Rows appended to nothing. -/
theorem CopyAt.made {w w1 w2 : World} {v : Value} {M : List Rw} {g : Option Nat} (hb : Below w.heap.size w w1) (hM : ∀ r ∈ M, NumsAt w r.ao r.cap r.R) (h0 : M.length ≠ 0) (ho : w2.ownsRow w.heap.size 33 1 v (0 + M.length) ([] ++ M.map Rw.v)) (hg : w1.grownBy w2 g) (hgb : ∀ m, g = some m → w.heap.size ≤ m) :
    ∃ b c, v = .slice (some ⟨b, 0, none⟩) M.length c ∧ CopyAt w w2 b c M := by
  rcases ho.2 with ⟨_, hz⟩ | ⟨b, c, cur, hv, hbb, hh, hc, hm, hs, ht⟩
  · omega
  · refine ⟨b, c, by rw [hv, Nat.zero_add], hbb, by omega, hM, ⟨cur, hh, fun i hi => ?_⟩, below_of_grown hb hg hb.size hgb⟩
    have q1 : (M.map Rw.v)[i]? = some (rwAt M i).v := by
      rw [List.getElem?_map]
      unfold rwAt
      rw [List.getElem?_eq_getElem hi]; rfl
    rw [List.nil_append] at ht
    rw [← ht, List.getElem?_take, if_pos (by omega)] at q1
    simpa using q1

theorem rest_of (x : Int) (n : Nat) (h0 : 0 < n) (h6 : n ≤ 6) : ∃ i : Nat, i < n ∧ wrap64 ((IntKind.u64.wrap x).tmod (n : Int)) = (i : Int) := by
  obtain ⟨z, hz⟩ : ∃ z : Nat, IntKind.u64.wrap x = (z : Int) := ⟨(IntKind.u64.wrap x).toNat, by
    have : 0 ≤ IntKind.u64.wrap x := by simp [IntKind.wrap, IntKind.signed, IntKind.bits]; omega
    omega⟩
  rw [hz]
  have e : ((z : Int).tmod (n : Int)) = ((z % n : Nat) : Int) := by simp [Int.tmod]
  rw [e]
  have hl := Nat.mod_lt z h0
  refine ⟨z % n, hl, ?_⟩
  unfold wrap64
  omega

/-- Rows made of small rows' numbers are small. -/
theorem small_of {M N : List Rw} (h : SmallM M) (h6 : N.length ≤ 6) (hr : ∀ j, j < N.length → (rwAt N j).R.length ≤ 6 ∧ ∀ x ∈ (rwAt N j).R, ∃ i, i < M.length ∧ x ∈ (rwAt M i).R) : SmallM N := by
  refine ⟨by omega, fun r hrN => ?_⟩
  obtain ⟨j, hj, rfl⟩ := List.getElem_of_mem hrN
  have e : N[j] = rwAt N j := by unfold rwAt; rw [List.getElem?_eq_getElem hj]; rfl
  rw [e]
  refine ⟨by have := (hr j hj).1; omega, fun x hx => ?_⟩
  obtain ⟨i, hi, hm⟩ := (hr j hj).2 x hx
  exact (h.2 _ (rwAt_mem hi)).2 x hm

theorem NB_top : ∀ n, n ≤ 6 → factN n * B80 ^ n < TOP := by decide +kernel
theorem det_top {M : List Rw} (hg : GoodM M M.length) (h : mChk M = 0) (hw : width M = M.length) : (detV M).natAbs < TOP := by
  rw [(detV_of h hw hg.1).2]
  have := detD_bound B80 ((List.range M.length).map (valM M)) (List.range M.length) (by simp) (by
    intro f hf d hd
    obtain ⟨i, hi, rfl⟩ := List.mem_map.1 hf
    exact (hg.2.2.2 i d (List.mem_range.1 hi) (List.mem_range.1 hd)).2)
  rw [List.length_map, List.length_range] at this
  exact Nat.lt_of_le_of_lt this (NB_top _ hg.1)

theorem swap_small {M : List Rw} {i j : Nat} (hs : SmallM M) (hg : GoodM M M.length) (hi : i < M.length) (hj : j < M.length) : SmallM (swapR M i j) := by
  refine small_of hs (by rw [swapR_len]; exact hg.1) (fun k hk => ?_)
  rw [swapR_len] at hk
  rw [swapR_at hi hj hk]
  have g6 := hg.1
  by_cases e : k = j
  · rw [if_pos e]; exact ⟨by rw [hg.2.2.1 i hi]; exact g6, fun x hx => ⟨i, hi, hx⟩⟩
  · rw [if_neg e]
    by_cases e2 : k = i
    · rw [if_pos e2]; exact ⟨by rw [hg.2.2.1 j hj]; exact g6, fun x hx => ⟨j, hj, hx⟩⟩
    · rw [if_neg e2]; exact ⟨by rw [hg.2.2.1 k hk]; exact g6, fun x hx => ⟨k, hk, hx⟩⟩
theorem turn_small {M N : List Rw} {n : Nat} (hT : TurnIs N M n) (hs : SmallM M) (hg : ∀ k, k < M.length → (rwAt M k).R.length = n) (hm6 : M.length ≤ 6) (hn6 : n ≤ 6) : SmallM N := by
  have hl := hT.1
  refine small_of hs (by omega) (fun j hj => ?_)
  rw [hT.2 j (by omega)]
  refine ⟨by rw [colOf_len]; exact hm6, fun x hx => ?_⟩
  unfold colOf at hx
  obtain ⟨c, hc, rfl⟩ := List.mem_map.1 hx
  have hc := List.mem_range.1 hc
  exact ⟨c, hc, nmAt_mem (by rw [hg c hc]; omega)⟩

set_option maxHeartbeats 8000000 in
set_option maxRecDepth 20000 in
theorem exactTurns_walk (ao : Option Addr) (cap : Nat) (M : List Rw) (x y : Int) (w : World) (h : MatAt w ao cap M) (hs : SmallM M) :
    Calls Try.prog 7 #[.slice ao M.length cap, .int .i64 x, .int .i64 y] w fun e w' => e = .returned (.bool true) ∧ Below w.heap.size w w' := by
  by_cases hno : ¬ (litB 4 M = true ∧ mChk M = 0 ∧ M.length ≠ 0 ∧ width M = M.length)
  · exact exactTurns_away ao cap M x y w h hs hno
  have hgo := Decidable.not_not.1 hno
  clear hno
  obtain ⟨hlit, h0, hz, hw⟩ := hgo
  have hg := good_of h h0
  rw [hw] at hg
  have CL := hide (fun w' h' => light_any ao cap M 4 w' h' hs)
  have CC := hide (fun w' h' => refCheck_any ao cap M w' h' hs)
  have CD := hide (fun w' h' => det_any ao cap M w' h' hs)
  have CR := hide (fun w' h' => rank_any ao cap M w' h' hs)
  have CT := hide (fun w' h' => turned_any ao cap M M.length w' h' hs hw hg.2.2.1 hg.1 hg.1)
  rw [hlit] at CL
  rw [h0] at CC
  have HM := hide h
  have hp : 0 < M.length := by omega
  obtain ⟨b, off, rfl, hbb, hc⟩ := h.ne hp
  have hc0 := hc 0 hp
  rw [Nat.add_zero] at hc0
  change _ = some (Value.slice _ (width M) _) at hc0
  rw [hw] at hc0
  obtain ⟨ml, hml⟩ : ∃ ml, M.length = ml := ⟨_, rfl⟩
  have h6 : ml ≤ 6 := by have := hg.1; omega
  have HL := hide hml
  rw [hml] at CL CC CD CR CT hc0 ⊢
  have hmI : ((ml : Int) == 0) = false := by simp; omega
  have HC := hide hc
  generalize (rwAt M 0).ao = a0 at *
  generalize (rwAt M 0).cap = c0 at *
  have HCK := hide (fun w' (hw : Below w.heap.size w w') => (show w'.cell? ⟨b, off, none⟩ = some (.slice a0 ml c0) by rw [hw.cell (p := ⟨b, off, none⟩) hbb]; exact hc0))
  have hpI : (0 : Int) < (ml : Int) := by omega
  have H0 := hide h0; have HW := hide hw; have HG := hide hg; have HS := hide hs
  clear h hs hlit h0 hw hml hc hc0 hg
  go_enter Try.func7, Try.ntmps7
  go_wp2_with fail
  refine (unhide CL _ (unhide HM)).mono ?_
  rintro e w1 ⟨rfl, hb1⟩
  have B1 := hide hb1
  clear hb1 CL
  go_wp2_with fail
  refine (unhide CC _ ((unhide HM).below (unhide B1))).mono ?_
  rintro e w2 ⟨rfl, hb2⟩
  have B2 := hide ((unhide B1).trans (hb2.mono (unhide B1).size))
  clear hb2 B1 CC
  have hck := unhide HCK _ (unhide B2)
  obtain ⟨i, hi, hxi⟩ := rest_of x ml (by omega) h6
  obtain ⟨j, hj, hyj⟩ := rest_of y ml (by omega) h6
  obtain ⟨j0, hj0, hz0, hz1, hz2⟩ := info_parts infoRow
  have hbA : Below w2.heap.size w2 (w2.alloc (.cells #[] 33)) := (Below.refl _ _).alloc (Nat.le_refl _) _
  have hbS := (unhide B2).trans (hbA.mono (unhide B2).size)
  have BS := hide hbS
  have NEWS := hide (show ∀ j u, (M.map Rw.v)[j]? = some u → (w2.alloc (.cells #[] 33)).cell? ((⟨b, off, none⟩ : Addr).add j) = some u from fun j u hu => by
    rw [List.getElem?_map] at hu
    cases hm : M[j]? with
    | none => rw [hm] at hu; cases hu
    | some r =>
      rw [hm] at hu
      have hjl : j < M.length := (List.getElem?_eq_some_iff.1 hm).1
      have hcj := unhide HC j hjl
      have er : rwAt M j = r := by unfold rwAt; rw [hm]; rfl
      rw [er] at hcj
      rw [show (⟨b, off, none⟩ : Addr).add j = ⟨b, off + j, none⟩ by simp [Addr.add]]
      rw [hbS.cell (p := ⟨b, off + j, none⟩) hbb, hcj]
      exact hu)
  have ONE := hide (show ∀ u ∈ M.map Rw.v, u.oneCell' = true from fun u hu => by
    obtain ⟨r, _, rfl⟩ := List.mem_map.1 hu
    rfl)
  have OWN := hide (show (w2.alloc (.cells #[] 33)).ownsRow w.heap.size 33 1 (.slice (some ⟨w2.heap.size, 0, none⟩) 0 0) 0 [] from (OwnRows.start w2 w.heap.size (unhide B2).size).1)
  have FIN := hide (fun v' w3 (ho : w3.ownsRow w.heap.size 33 1 v' (0 + ml) ([] ++ M.map Rw.v)) (hg : (w2.alloc (.cells #[] 33)).grownBy w3 (some w2.heap.size)) =>
    CopyAt.made (M := M) hbS (unhide HM).2.1 (by rw [unhide HL]; omega) (by rw [unhide HL]; exact ho) hg (fun m hm => by cases hm; exact (unhide B2).size))
  have LN := hide (show (M.map Rw.v).length = ml * 1 by rw [List.length_map, unhide HL]; omega)
  have HCC := hide (fun i (hi : i < ml) w' (hw : Below w.heap.size w w') => (show w'.cell? ⟨b, off + i, none⟩ = some (Value.slice (rwAt M i).ao (rwAt M i).R.length (rwAt M i).cap) by rw [hw.cell (p := ⟨b, off + i, none⟩) hbb]; exact unhide HC i (by rw [unhide HL]; exact hi)))
  have NI := hide ((unhide HM).nums (i := i) (by rw [unhide HL]; exact hi))
  have NJ := hide ((unhide HM).nums (i := j) (by rw [unhide HL]; exact hj))
  have hiI : (i : Int) < (ml : Int) := by omega
  have hjI : (j : Int) < (ml : Int) := by omega
  clear hbA hbS HCK
  go_wp2_with (at_builtin; refine wpList_append_own_at _ rfl _ _ 22 rfl w.heap.size 33 j0 (.slice none 0 0) 1 24 Try.underlying22 hj0 hz0 hz1 hz2 rfl (by decide) _ _ _ rfl (unhide OWN) ⟨b, off, none⟩ ml cap (M.map Rw.v) rfl (unhide LN) (unhide NEWS) (unhide ONE) (by unfold maxLen; omega) (by omega) (unhide BS).size ?_; intro v' w3 hown' hgrow hnil hloc; obtain ⟨g, c3, rfl, k3⟩ := unhide FIN v' w3 hown' hgrow; rw [unhide HL]; clear hown' hgrow hloc hnil; have K3 := hide k3; have K4 := hide (k3.store (i := i) (rwAt M j) (unhide NJ)); have K5 := hide ((unhide K4).store (i := j) (rwAt M i) (unhide NI)); have hci := unhide HCC i hi _ k3.2.2.2.2; have hcj := unhide HCC j hj _ k3.2.2.2.2; have hdi := unhide HCC i hi _ (unhide K4).2.2.2.2; have hgi := k3.cell (i := i) (by rw [unhide HL]; exact hi); have hgj := (unhide K4).cell (i := j) (by rw [List.length_set, unhide HL]; exact hj); have fi := k3.free i; have fj := (unhide K4).free j; clear k3)
  have B5 := hide (unhide K5).2.2.2.2
  have MS := hide ((unhide K5).mat)
  have SS := hide (swap_small (unhide HS) (unhide HG) (i := i) (j := j) (by rw [unhide HL]; exact hi) (by rw [unhide HL]; exact hj))
  have SV := hide (swap_says (i := i) (j := j) (unhide H0) (unhide HL) (by rw [unhide HW, unhide HL]) (by have := (unhide HG).2.2.1; rw [unhide HL] at this; exact this) h6 hi hj)
  have CS := hide (fun w' h' => det_any (some ⟨g, 0, none⟩) c3 (swapR M i j) w' h' (unhide SS))
  rw [(unhide SV).1, (unhide SV).2, swapR_len, unhide HL] at CS
  obtain ⟨DE, DV⟩ := detV_of (unhide H0) (unhide HW) (unhide HG).1
  have DT := hide (det_top (unhide HG) (unhide H0) (unhide HW))
  rw [DE] at CD
  have FD := hide (fun r => full_det (r := r) (unhide H0) (unhide HL) (by rw [unhide HW, unhide HL]) h6)
  have TD := hide (fun N (hT : TurnIs N M ml) => turn_det hT (unhide H0) (unhide HL) (by rw [unhide HW, unhide HL]) (by have := (unhide HG).2.2.1; rw [unhide HL] at this; exact this) h6 (by omega))
  have TS := hide (fun N (hT : TurnIs N M ml) => turn_small hT (unhide HS) (by have := (unhide HG).2.2.1; rw [unhide HL] at this ⊢; exact this) (by rw [unhide HL]; exact h6) h6)
  have TC := hide (fun N (hT : TurnIs N M ml) => turn_chk hT (unhide H0) (by have := (unhide HG).2.2.1; rw [unhide HL] at this ⊢; exact this) (by rw [unhide HL]; exact h6) h6)
  clear DE DV SV
  generalize detV M = dv at *
  clear K3 K4 K5 hci hcj hdi hgi hgj fi fj NI NJ HCC FIN OWN ONE NEWS LN BS hck
  revert B5 MS
  generalize (w3.setCell ⟨g, i, none⟩ (Value.slice (rwAt M j).ao (rwAt M j).R.length (rwAt M j).cap)).setCell ⟨g, j, none⟩ (Value.slice (rwAt M i).ao (rwAt M i).R.length (rwAt M i).cap) = w5
  intro B5 MS
  change Hid (MatAt w5 (some ⟨g, 0, none⟩) c3 (swapR M i j)) at MS
  refine (unhide CD _ ((unhide HM).below (unhide B5))).mono ?_
  rintro e w6 ⟨v, rfl, ⟨n6, a6, c6, L6, rfl, j6⟩, hb6⟩
  have bx : Below w6.heap.size w6 (w6.alloc (.cells #[.bool n6, .slice a6 L6.length c6] 30)) := (Below.refl _ _).alloc (Nat.le_refl _) _
  have hb6' := hb6.trans (bx.mono hb6.size)
  have B6 := hide ((unhide B5).trans (hb6'.mono (unhide B5).size))
  have MS6 := hide ((unhide MS).below hb6')
  have X6 := hide (Box2.new w6 (.bool n6) (.slice a6 L6.length c6))
  have I6 := hide ((show IsNum 0 w6 (.agg #[.bool n6, .slice a6 L6.length c6]) dv from ⟨n6, a6, c6, L6, rfl, j6⟩).below bx)
  clear hb6 hb6' bx j6 B5 MS CD
  go_wp2_with fail
  refine (unhide CS _ (unhide MS6)).mono ?_
  rintro e w7 ⟨v, rfl, ⟨n7, a7, c7, L7, rfl, j7⟩, hb7⟩
  have bx : Below w7.heap.size w7 (w7.alloc (.cells #[.bool n7, .slice a7 L7.length c7] 30)) := (Below.refl _ _).alloc (Nat.le_refl _) _
  have hb7' := hb7.trans (bx.mono hb7.size)
  have B7 := hide ((unhide B6).trans (hb7'.mono (unhide B6).size))
  have X6' := hide ((unhide X6).below hb7' (unhide X6).lt)
  have I6' := hide ((unhide I6).below hb7')
  have X7 := hide (Box2.new w7 (.bool n7) (.slice a7 L7.length c7))
  have I7 := hide ((show IsNum 0 w7 (.agg #[.bool n7, .slice a7 L7.length c7]) (if i = j then dv else - dv) from ⟨n7, a7, c7, L7, rfl, j7⟩).below bx)
  clear hb7 hb7' bx j7 B6 MS6 CS X6 I6
  go_wp2_with fail
  refine (unhide CT _ ((unhide HM).below (unhide B7))).mono ?_
  rintro e w8 ⟨a8, c8, N8, rfl, m8, t8, hb8⟩
  have B8 := hide ((unhide B7).trans (hb8.mono (unhide B7).size))
  have X6 := hide ((unhide X6').below hb8 (unhide X6').lt)
  have I6 := hide ((unhide I6').below hb8)
  have X7' := hide ((unhide X7).below hb8 (unhide X7).lt)
  have I7' := hide ((unhide I7).below hb8)
  have C8 := hide (det_any a8 c8 N8 w8 m8 (unhide TS N8 t8))
  rw [(unhide TD N8 t8).1, (unhide TD N8 t8).2] at C8
  clear hb8 B7 X6' I6' X7 I7 m8
  go_wp2_with fail
  refine (unhide C8).mono ?_
  rintro e w9 ⟨v, rfl, ⟨n9, a9, c9, L9, rfl, j9⟩, hb9⟩
  have bx : Below w9.heap.size w9 (w9.alloc (.cells #[.bool n9, .slice a9 L9.length c9] 30)) := (Below.refl _ _).alloc (Nat.le_refl _) _
  have hb9' := hb9.trans (bx.mono hb9.size)
  have B9 := hide ((unhide B8).trans (hb9'.mono (unhide B8).size))
  have X6' := hide ((unhide X6).below hb9' (unhide X6).lt)
  have I6' := hide ((unhide I6).below hb9')
  have X7 := hide ((unhide X7').below hb9' (unhide X7').lt)
  have I7 := hide ((unhide I7').below hb9')
  have X9 := hide (Box2.new w9 (.bool n9) (.slice a9 L9.length c9))
  have I9 := hide ((show IsNum 0 w9 (.agg #[.bool n9, .slice a9 L9.length c9]) dv from ⟨n9, a9, c9, L9, rfl, j9⟩).below bx)
  clear hb9 hb9' bx j9 B8 X6 I6 X7' I7' C8
  go_wp2_with fail
  refine (unhide CR _ ((unhide HM).below (unhide B9))).mono ?_
  rintro e w10 ⟨k, rfl, rk, rk0, hb10⟩
  have RK := hide (rk (unhide H0))
  rw [unhide H0]
  have B10 := hide ((unhide B9).trans (hb10.mono (unhide B9).size))
  have X6 := hide ((unhide X6').below hb10 (unhide X6').lt)
  have I6 := hide ((unhide I6').below hb10)
  have X7' := hide ((unhide X7).below hb10 (unhide X7).lt)
  have I7' := hide ((unhide I7).below hb10)
  have X9' := hide ((unhide X9).below hb10 (unhide X9).lt)
  have I9' := hide ((unhide I9).below hb10)
  clear hb10 B9 X6' I6' X7 I7 X9 I9 rk CR rk0
  go_wp2_with fail
  refine (unhide CT _ ((unhide HM).below (unhide B10))).mono ?_
  rintro e w11 ⟨a11, c11, N11, rfl, m11, t11, hb11⟩
  have B11 := hide ((unhide B10).trans (hb11.mono (unhide B10).size))
  have X6' := hide ((unhide X6).below hb11 (unhide X6).lt)
  have I6' := hide ((unhide I6).below hb11)
  have X7 := hide ((unhide X7').below hb11 (unhide X7').lt)
  have I7 := hide ((unhide I7').below hb11)
  have X9 := hide ((unhide X9').below hb11 (unhide X9').lt)
  have I9 := hide ((unhide I9').below hb11)
  have C11 := hide (rank_any a11 c11 N11 w11 m11 (unhide TS N11 t11))
  have tc := unhide TC N11 t11
  have T11 := hide t11
  clear hb11 B10 X6 I6 X7' I7' X9' I9' m11 t11 CT
  go_wp2_with fail
  refine (unhide C11).mono ?_
  rintro e w12 ⟨k', rfl, rk', rk0, hb12⟩
  have hk : k = k' := by
    have r1 := unhide RK
    have r2 := rk' tc.1
    rw [tc.2 (by omega), (unhide T11).1] at r2
    rw [unhide HW, unhide HL] at r1
    rw [unhide HL] at r2
    refine turn_rank (unhide T11) ?_ ?_ <;> rw [unhide HL] <;> assumption
  subst hk
  rw [tc.1]
  have hfull := unhide FD k (by rw [unhide HL]; exact unhide RK)
  have B12 := hide ((unhide B11).trans (hb12.mono (unhide B11).size))
  have X6 := hide ((unhide X6').below hb12 (unhide X6').lt)
  have I6 := hide ((unhide I6').below hb12)
  have X7' := hide ((unhide X7).below hb12 (unhide X7).lt)
  have I7' := hide ((unhide I7).below hb12)
  have X9' := hide ((unhide X9).below hb12 (unhide X9).lt)
  have I9' := hide ((unhide I9).below hb12)
  clear hb12 B11 X6' I6' X7 I7 X9 I9 rk' C11 tc T11 RK rk0
  have d60 := (unhide X6).c0; have d61 := (unhide X6).c1; have d90 := (unhide X9').c0; have d91 := (unhide X9').c1
  have hLZ : L6.length = 0 ↔ dv = 0 := by
    obtain ⟨_, _, _, _, e, _, h2, h4, _⟩ := (unhide I6).right (unhide DT)
    simp only [Value.agg.injEq, Array.mk.injEq, List.cons.injEq, Value.slice.injEq] at e
    rw [← h4, e.2.1.2.1]
    have hc := (right_canon h2).2.1
    constructor
    · intro z
      rw [List.length_eq_zero_iff.1 z, sval_nil]
    · intro z
      have z2 := natAbs_sval _ _ ▸ congrArg Int.natAbs z
      rw [(val_zero_of_canon _ hc).1 z2]; rfl
  have hkml : (k = ml ∧ L6.length ≠ 0) ∨ (k ≠ ml ∧ L6.length = 0) := by
    by_cases e : k = ml
    · exact .inl ⟨e, fun z => (hfull.1 e) (hLZ.1 z)⟩
    · refine .inr ⟨e, hLZ.2 ?_⟩
      exact Decidable.not_not.1 (fun z => e (hfull.2 z))
  have CNEG := hide (fun (w' : World) v (hv : IsNum 0 w' v dv) => refNeg_num hv (unhide DT))
  clear hLZ hfull DT TS TC TD FD SS t8 HS HG HW H0 HC HM
  rcases hkml with ⟨hk1, hk2⟩ | ⟨hk1, hk2⟩
  · subst hk1
    have hLI : (0 : Int) < (L6.length : Int) := by omega
    generalize L6.length = l6 at *
    have hLJ : 0 < l6 := by omega
    have hLK : decide (0 < l6) = true := decide_eq_true hLJ
    go_wp2_with fail
    refine (same_yes (unhide I6) (unhide I9') rfl).mono ?_
    rintro e w13 ⟨rfl, hb13⟩
    have B13 := hide ((unhide B12).trans (hb13.mono (unhide B12).size))
    have X6' := hide ((unhide X6).below hb13 (unhide X6).lt)
    have I6' := hide ((unhide I6).below hb13)
    have X7 := hide ((unhide X7').below hb13 (unhide X7').lt)
    have I7 := hide ((unhide I7').below hb13)
    clear hb13 B12 X6 I6 X7' I7' X9' I9' d60 d61 d90 d91
    have d60 := (unhide X6').c0; have d61 := (unhide X6').c1; have d70 := (unhide X7).c0; have d71 := (unhide X7).c1
    by_cases hij : i = j
    · rw [if_pos hij] at I7
      subst hij
      go_wp2_with fail
      refine (same_yes (unhide I6') (unhide I7) rfl).mono ?_
      rintro e w14 ⟨rfl, hb14⟩
      have B14 := hide ((unhide B13).trans (hb14.mono (unhide B13).size))
      clear hb14 B13 X6' I6' X7 I7 d60 d61 d70 d71
      go_wp2_with fail
      refine (awake3_any _).mono ?_
      rintro e w15 ⟨rfl, hb15⟩
      have B15 := hide ((unhide B14).trans (hb15.mono (unhide B14).size))
      clear hb15 B14
      go_wp2_with fail
      go_ret
      exact ⟨rfl, unhide B15⟩
    · rw [if_neg hij] at I7
      have hijI : ((i : Int) == (j : Int)) = false := by simp; omega
      go_wp2_with fail
      refine at_world (fun W => W = w13) rfl ?_
      rintro W0 e0
      subst e0
      clear hxi hyj hz hp hmI HL hijI
      have HK := hide (fun w' (h : Below W0.heap.size W0 w') => show Below W0.heap.size W0 w' ∧ w'.cell? ⟨w6.heap.size, 0, none⟩ = some (.bool n6) ∧ w'.cell? ⟨w6.heap.size, 1, none⟩ = some (.slice a6 l6 c6) ∧ w'.cell? ⟨w7.heap.size, 0, none⟩ = some (.bool n7) ∧ w'.cell? ⟨w7.heap.size, 1, none⟩ = some (.slice a7 L7.length c7) from
        ⟨h, ((unhide X6').below h (unhide X6').lt).c0, ((unhide X6').below h (unhide X6').lt).c1, ((unhide X7).below h (unhide X7).lt).c0, ((unhide X7).below h (unhide X7).lt).c1⟩)
      have CN' := hide (fun w' (h : Below W0.heap.size W0 w') => unhide CNEG w' _ ((unhide I6').below h))
      clear CNEG
      go_region_held3 (fun w' => Below W0.heap.size W0 w' ∧ w'.cell? ⟨w6.heap.size, 0, none⟩ = some (.bool n6) ∧ w'.cell? ⟨w6.heap.size, 1, none⟩ = some (.slice a6 l6 c6) ∧ w'.cell? ⟨w7.heap.size, 0, none⟩ = some (.bool n7) ∧ w'.cell? ⟨w7.heap.size, 1, none⟩ = some (.slice a7 L7.length c7))
        (first | assumption | exact unhide HK _ (Below.refl _ _).drew | exact unhide HK _ (by assumption) | fail "KK")
        (first | (go_at_call 23; refine (unhide CN' _ (And.left (by assumption))).mono ?_; rintro e wn ⟨v, rfl, iv, hb1⟩; have hBn : Below W0.heap.size W0 wn := Below.trans (And.left (by assumption)) (hb1.mono (Below.size (And.left (by assumption)))); have IV := hide iv; clear hb1 iv) | (go_at_call 14; refine (same_yes ((unhide I7).below (And.left (by assumption))) (unhide IV) rfl).mono ?_; rintro e wn ⟨rfl, hb1⟩; have hBn : Below W0.heap.size W0 wn := Below.trans (And.left (by assumption)) (hb1.mono (Below.size (And.left (by assumption)))); clear hb1) | (go_at_call 11; refine (awake3_any _).mono ?_; rintro e wn ⟨rfl, hb1⟩; have hBn : Below W0.heap.size W0 wn := Below.trans (And.left (by assumption)) (hb1.mono (Below.size (And.left (by assumption)))); clear hb1) | fail "NO ARM")
      go_wp2
      go_ret
      exact ⟨rfl, (unhide B13).trans (Below.mono (And.left (by assumption)) (unhide B13).size)⟩
  · have hkI : ((k : Int) == (ml : Int)) = false := by simp; omega
    have hLI : L6 = [] := List.length_eq_zero_iff.1 hk2
    subst hLI
    rw [List.length_nil] at X6 I6 d61
    go_wp2_with fail
    refine (same_yes (unhide I6) (unhide I9') rfl).mono ?_
    rintro e w13 ⟨rfl, hb13⟩
    have B13 := hide ((unhide B12).trans (hb13.mono (unhide B12).size))
    have X6' := hide ((unhide X6).below hb13 (unhide X6).lt)
    have I6' := hide ((unhide I6).below hb13)
    have X7 := hide ((unhide X7').below hb13 (unhide X7').lt)
    have I7 := hide ((unhide I7').below hb13)
    clear hb13 B12 X6 I6 X7' I7' X9' I9' d60 d61 d90 d91
    have d60 := (unhide X6').c0; have d61 := (unhide X6').c1; have d70 := (unhide X7).c0; have d71 := (unhide X7).c1
    by_cases hij : i = j
    · rw [if_pos hij] at I7
      subst hij
      go_wp2_with fail
      refine (same_yes (unhide I6') (unhide I7) rfl).mono ?_
      rintro e w14 ⟨rfl, hb14⟩
      have B14 := hide ((unhide B13).trans (hb14.mono (unhide B13).size))
      clear hb14 B13 X6' I6' X7 I7 d60 d61 d70 d71
      go_wp2_with fail
      refine (awake3_any _).mono ?_
      rintro e w15 ⟨rfl, hb15⟩
      have B15 := hide ((unhide B14).trans (hb15.mono (unhide B14).size))
      clear hb15 B14
      go_wp2_with fail
      go_ret
      exact ⟨rfl, unhide B15⟩
    · rw [if_neg hij] at I7
      have hijI : ((i : Int) == (j : Int)) = false := by simp; omega
      go_wp2_with fail
      refine at_world (fun W => W = w13) rfl ?_
      rintro W0 e0
      subst e0
      clear hxi hyj hz hp hmI HL hijI
      have HK := hide (fun w' (h : Below W0.heap.size W0 w') => show Below W0.heap.size W0 w' ∧ w'.cell? ⟨w6.heap.size, 0, none⟩ = some (.bool n6) ∧ w'.cell? ⟨w6.heap.size, 1, none⟩ = some (.slice a6 0 c6) ∧ w'.cell? ⟨w7.heap.size, 0, none⟩ = some (.bool n7) ∧ w'.cell? ⟨w7.heap.size, 1, none⟩ = some (.slice a7 L7.length c7) from
        ⟨h, ((unhide X6').below h (unhide X6').lt).c0, ((unhide X6').below h (unhide X6').lt).c1, ((unhide X7).below h (unhide X7).lt).c0, ((unhide X7).below h (unhide X7).lt).c1⟩)
      have CN' := hide (fun w' (h : Below W0.heap.size W0 w') => unhide CNEG w' _ ((unhide I6').below h))
      clear CNEG
      go_region_held3 (fun w' => Below W0.heap.size W0 w' ∧ w'.cell? ⟨w6.heap.size, 0, none⟩ = some (.bool n6) ∧ w'.cell? ⟨w6.heap.size, 1, none⟩ = some (.slice a6 0 c6) ∧ w'.cell? ⟨w7.heap.size, 0, none⟩ = some (.bool n7) ∧ w'.cell? ⟨w7.heap.size, 1, none⟩ = some (.slice a7 L7.length c7))
        (first | assumption | exact unhide HK _ (Below.refl _ _).drew | exact unhide HK _ (by assumption) | fail "KK")
        (first | (go_at_call 23; refine (unhide CN' _ (And.left (by assumption))).mono ?_; rintro e wn ⟨v, rfl, iv, hb1⟩; have hBn : Below W0.heap.size W0 wn := Below.trans (And.left (by assumption)) (hb1.mono (Below.size (And.left (by assumption)))); have IV := hide iv; clear hb1 iv) | (go_at_call 14; refine (same_yes ((unhide I7).below (And.left (by assumption))) (unhide IV) rfl).mono ?_; rintro e wn ⟨rfl, hb1⟩; have hBn : Below W0.heap.size W0 wn := Below.trans (And.left (by assumption)) (hb1.mono (Below.size (And.left (by assumption)))); clear hb1) | (go_at_call 11; refine (awake3_any _).mono ?_; rintro e wn ⟨rfl, hb1⟩; have hBn : Below W0.heap.size W0 wn := Below.trans (And.left (by assumption)) (hb1.mono (Below.size (And.left (by assumption)))); clear hb1) | fail "NO ARM")
      go_wp2
      go_ret
      exact ⟨rfl, (unhide B13).trans (Below.mono (And.left (by assumption)) (unhide B13).size)⟩
end Go.Proofs.Ytlcidapdmgchoaa

