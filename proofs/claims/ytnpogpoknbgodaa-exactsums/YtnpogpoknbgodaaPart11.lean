/- Part 11 of the texts. -/
import Derived.Test.YtnpogpoknbgodaaPart10
import Derived.Test.YtnpogpoknbgodaaPart04
import Derived.Test.YtnpogpoknbgodaaPart05
/- Contract of ledger.widened. -/
namespace Go.Proofs.Ytnpogpoknbgodaa
open Go.RowKit
attribute [local go_sem ↓] Go.wp_at_zero Go.wp_at_succ

theorem LimbsAt.pbox {w : World} {ao : Option Addr} {cap g : Nat} {L : List Nat} {x y : Int} {t : TypeId} (h : LimbsAt w ao cap L) (ha : CellsAt w g #[.int .u64 x, .int .u64 y] t) (i j : Nat) (u u' : Value) : LimbsAt ((w.setCell ⟨g, i, none⟩ u).setCell ⟨g, j, none⟩ u') ao cap L := by
  refine ⟨h.1, h.2.1, ?_⟩
  rcases h.2.2 with h0 | ⟨c, off, h1, h2, h3⟩
  · exact .inl h0
  · by_cases hL : L = []
    · exact .inl hL
    have hc : c ≠ g := by
      rintro rfl
      have h4 := h3 0 (List.length_pos_iff.2 hL)
      rw [ha.cell] at h4
      generalize off + 0 = q at h4
      match q, h4 with
      | 0, t => simp at t
      | 1, t => simp at t
      | q + 2, t => simp at t
    refine .inr ⟨c, off, h1, by simpa [World.setCell] using h2, fun i' hi' => ?_⟩
    rw [cell_setCell_other _ _ _ _ (show c ≠ g from hc), cell_setCell_other _ _ _ _ (show c ≠ g from hc)]
    exact h3 i' hi'
theorem IsNum.pbox {B : Nat} {w : World} {v : Value} {z : Int} {g : Nat} {x y : Int} {t : TypeId} (h : IsNum B w v z) (ha : CellsAt w g #[.int .u64 x, .int .u64 y] t) (i j : Nat) (u u' : Value) : IsNum B ((w.setCell ⟨g, i, none⟩ u).setCell ⟨g, j, none⟩ u') v z := by
  obtain ⟨neg, ao, cap, L, h1, h2, h3⟩ := h
  exact ⟨neg, ao, cap, L, h1, h2.pbox ha i j u u', h3⟩
theorem LInv.pbox {w0 w : World} {m g : Nat} {M : List Rw} {x y : Int} {t : TypeId} (h : LInv w0 m M w) (ha : CellsAt w g #[.int .u64 x, .int .u64 y] t) (hg : w0.heap.size ≤ g) (i j : Nat) (u u' : Value) : LInv w0 m M ((w.setCell ⟨g, i, none⟩ u).setCell ⟨g, j, none⟩ u') := by
  obtain ⟨hb, es, clock, h1, h2⟩ := h
  refine ⟨(hb.setCell (p := ⟨g, i, none⟩) hg u).setCell (p := ⟨g, j, none⟩) hg u', es, clock, ?_, fun e he => ?_⟩
  · have hne : m ≠ g := by rintro rfl; unfold CellsAt at ha; rw [h1] at ha; cases ha
    rw [Below.heap_setCell _ _ _ _ (show m ≠ (⟨g, j, none⟩ : Addr).block from hne), Below.heap_setCell _ _ _ _ (show m ≠ (⟨g, i, none⟩ : Addr).block from hne)]
    exact h1
  · obtain ⟨r, c, a1, a2, a3, a4⟩ := h2 e he
    exact ⟨r, c, a1, a2, a3, a4.pbox ha i j u u'⟩
theorem CellsAt.put {w : World} {g : Nat} {x y : Value} {t : TypeId} (h : CellsAt w g #[x, y] t) (u u' : Value) : CellsAt ((w.setCell ⟨g, 0, none⟩ u).setCell ⟨g, 1, none⟩ u') g #[u, u'] t := by
  unfold CellsAt
  rw [heap_setCell_same _ g 1 _ _ _ (heap_setCell_same w g 0 _ _ _ h)]
  rfl
theorem CellsAt.other {w : World} {b g : Nat} {cs : Array Value} {t : TypeId} (h : CellsAt w b cs t) (hne : b ≠ g) (i j : Nat) (u u' : Value) : CellsAt ((w.setCell ⟨g, i, none⟩ u).setCell ⟨g, j, none⟩ u') b cs t := by
  unfold CellsAt
  rw [Below.heap_setCell _ _ _ _ (show b ≠ (⟨g, j, none⟩ : Addr).block from hne), Below.heap_setCell _ _ _ _ (show b ≠ (⟨g, i, none⟩ : Addr).block from hne)]
  exact h

/-- What widened answers. -/
def Wid (M : List Rw) (n pr pc r rr cc : Nat) : Prop :=
  (∃ c, c < n ∧ pc.testBit c = false ∧ rr = ins pr r ∧ cc = ins pc c ∧ GM M rr cc ≠ 0) ∨ (rr = pr ∧ cc = pc ∧ ∀ c, c < n → pc.testBit c = false → GM M (ins pr r) (ins pc c) = 0)

/-- What stands behind the wider places. -/
def TailW (w0 : World) (m : Nat) (M : List Rw) (ao : Option Addr) (cap : Nat) (w : World) (pr pc ir ic g : Nat) (W : World) : Prop :=
  CellsAt W g #[.int .u64 (ir : Int), .int .u64 (ic : Int)] 52 ∧ CellsAt W w.heap.size #[.slice ao M.length cap, .map (some m)] 47 ∧ CellsAt W (w.heap.size + 1) #[.int .u64 (pr : Int), .int .u64 (pc : Int)] 52 ∧ CellsAt W (w.heap.size + 1 + 1) #[.int .u64 0, .int .u64 0] 52 ∧ LInv w0 m M W ∧ Fr w.heap.size (some m) w W ∧ w.heap.size + 1 + 1 < g

theorem ins_facts : ∀ s, s < 64 → ∀ k, k < 6 → s.testBit k = false → ins s k < 64 ∧ sz (ins s k) = sz s + 1 := by decide +kernel
theorem ins_width : ∀ n, n ≤ 6 → ∀ s, s < 2 ^ n → ∀ k, k < n → ins s k < 2 ^ n := by decide +kernel
theorem bit_out : ∀ n, n < 6 → ∀ s, s < 2 ^ n → s.testBit n = false ∧ s < 2 ^ (n + 1) := by decide +kernel

theorem field_limbs (x : Bool) (a : Option Addr) (q c : Nat) (W : World) : (Instr.field 35 (.agg #[.bool x, .slice a q c]) 1).run Try.prog W = .ok (.slice a q c) W := by kernel_rfl

set_option maxHeartbeats 8000000 in
theorem widened_any (ao : Option Addr) (cap : Nat) (M : List Rw) (n : Nat) (w0 : World) (m : Nat) (hM : MatAt w0 ao cap M) (hg : GoodM M n) (hm : w0.heap.size ≤ m) (pr pc r : Nat) (w : World) (hr : r < M.length) (hpr : pr < 2 ^ r) (hpc : pc < 2 ^ n) (hsz : sz pr = sz pc) (hI : LInv w0 m M w) :
    Calls Try.prog 19 #[.agg #[.slice ao M.length cap, .map (some m)], .agg #[.int .u64 (pr : Int), .int .u64 (pc : Int)], .int .i64 (r : Int)] w fun e w' => ∃ rr cc : Nat, e = .returned (.agg #[.int .u64 (rr : Int), .int .u64 (cc : Int)]) ∧ Wid M n pr pc r rr cc ∧ LInv w0 m M w' ∧ Fr w.heap.size (some m) w w' := by
  have hM6 := hg.1
  have hn6 := hg.2.1
  have r6 : r < 6 := by omega
  have pr64 : pr < 64 := Nat.lt_of_lt_of_le hpr (by have := (set_full r (by omega)).2; omega)
  have pc64 : pc < 64 := Nat.lt_of_lt_of_le hpc (set_full n hn6).2
  obtain ⟨hbit, hpr1⟩ := bit_out r r6 pr hpr
  obtain ⟨ir64, irs⟩ := ins_facts pr pr64 r r6 hbit
  have irM : ins pr r < 2 ^ M.length := Nat.lt_of_lt_of_le (ins_width (r + 1) (by omega) pr hpr1 r (by omega)) (Nat.pow_le_pow_right (by decide) (by omega))
  have CW1 := hide (fun w => with_any pr r w pr64 r6)
  have CM := hide (fun (w' : World) (c : Nat) (hc : c < n) (hb : pc.testBit c = false) (h : LInv w0 m M w') => minor_any ao cap M n w0 m hM hg hm (sz pr + 1) (ins pr r) (ins pc c) w' irs (by rw [(ins_facts pc pc64 c (by omega) hb).2, hsz]) irM (ins_width n hn6 pc hpc c hc) h)
  have HW := hide (fun rr cc => (Iff.rfl : Wid M n pr pc r rr cc ↔ Wid M n pr pc r rr cc))
  obtain ⟨b, off, hao, hbb, hc'⟩ := hM.ne (by omega)
  have hcr := hc' r hr
  have hrl := hg.2.2.1 r hr
  rw [hrl] at hcr
  generalize (rwAt M r).ao = ar at *
  generalize (rwAt M r).cap = cr at *
  have HR := hide (fun w' (hb : Below w0.heap.size w0 w') => show w'.cell? ⟨b, off + r, none⟩ = some (.slice ar n cr) by rw [hb.cell (p := ⟨b, off + r, none⟩) hbb]; exact hcr)
  have hmw := hI.2.lt
  have hw0 := hI.1.size
  subst hao
  have l2 := ((CellsAt.new w #[.slice (some ⟨b, off, none⟩) M.length cap, .map (some m)] 47).old (.cells #[.int .u64 (pr : Int), .int .u64 (pc : Int)] 52)).old (.cells #[.int .u64 0, .int .u64 0] 52)
  have p2 := (CellsAt.new (w.alloc (.cells #[.slice (some ⟨b, off, none⟩) M.length cap, .map (some m)] 47)) #[.int .u64 (pr : Int), .int .u64 (pc : Int)] 52).old (.cells #[.int .u64 0, .int .u64 0] 52)
  have x2 := CellsAt.new ((w.alloc (.cells #[.slice (some ⟨b, off, none⟩) M.length cap, .map (some m)] 47)).alloc (.cells #[.int .u64 (pr : Int), .int .u64 (pc : Int)] 52)) #[.int .u64 0, .int .u64 0] 52
  have b2 : Below w.heap.size w (((w.alloc (.cells #[.slice (some ⟨b, off, none⟩) M.length cap, .map (some m)] 47)).alloc (.cells #[.int .u64 (pr : Int), .int .u64 (pc : Int)] 52)).alloc (.cells #[.int .u64 0, .int .u64 0] 52)) :=
    (((Below.refl _ _).alloc (Nat.le_refl _) _).alloc (by simp) _).alloc (by simp; omega) _
  simp only [World.size_alloc] at p2 x2
  have hrow := unhide HR _ (hI.1.trans (b2.mono hw0))
  have L2 := hide l2; have P2 := hide p2; have X2 := hide x2; have I2 := hide (hI.below b2); have F2 := hide (Fr.of b2 (some m))
  have l20 := l2.cell 0
  simp only [List.getElem?_toArray, List.getElem?_cons_zero] at l20
  have hrI : (r : Int) < (M.length : Int) := by omega
  clear hM hg hI hc' hcr hrl l2 p2 x2 b2 hpr hpc irM hpr1 irs ir64 hsz hbit
  go_enter Try.func19, Try.ntmps19
  go_wp2_with fail
  go_loopw [15] (fun i wr => ∃ k : Nat, k ≤ n ∧ i = .int .i64 k ∧ Hid (CellsAt wr w.heap.size #[.slice (some ⟨b, off, none⟩) M.length cap, .map (some m)] 47) ∧ Hid (CellsAt wr (w.heap.size + 1) #[.int .u64 (pr : Int), .int .u64 (pc : Int)] 52) ∧ Hid (CellsAt wr (w.heap.size + 1 + 1) #[.int .u64 0, .int .u64 0] 52) ∧ Hid (LInv w0 m M wr) ∧ Hid (Fr w.heap.size (some m) w wr) ∧ Hid (∀ c, c < k → pc.testBit c = false → GM M (ins pr r) (ins pc c) = 0)) (fun i _ => n - (intOf i).toNat)
  case atStart => exact ⟨0, Nat.zero_le _, rfl, L2, P2, X2, I2, F2, by unfold Hid; intro c hc; omega⟩
  case round =>
    obtain ⟨k, hk, rfl, hL, hP, hX, hIr, hF, hQ⟩ := hrel
    by_cases hlt : k < n
    · have CW2 := hide (fun w => with_any pc k w pc64 (by omega))
      have CH := hide (fun w => has_any pc k w pc64 (by omega))
      have hkI : (k : Int) < (n : Int) := by omega
      clear L2 P2 X2 I2 F2 hrow l20
      go_wp2_with fail
      refine at_world (fun W => W = wr) rfl ?_
      rintro W0 e0
      subst e0
      have HK := hide (fun w' (h : Below W0.heap.size W0 w') => show Below W0.heap.size W0 w' ∧ w'.cell? ⟨w.heap.size + 1, 0, none⟩ = some (.int .u64 (pr : Int)) ∧ w'.cell? ⟨w.heap.size + 1, 1, none⟩ = some (.int .u64 (pc : Int)) from ⟨h, ((unhide hP).below h).cell 0, ((unhide hP).below h).cell 1⟩)
      have HT := hide (fun (W : World) (h : Below W0.heap.size W0 W) (hc : CellsAt W W0.heap.size #[.int .u64 (ins pr r : Int), .int .u64 (ins pc k : Int)] 52) =>
        (show TailW w0 m M (some ⟨b, off, none⟩) cap w pr pc (ins pr r) (ins pc k) W0.heap.size W from
          ⟨hc, (unhide hL).below h, (unhide hP).below h, (unhide hX).below h, (unhide hIr).below h, (unhide hF).thenB (Nat.le_refl _) h, (unhide hX).lt⟩))
      have CM' := hide (fun (w' : World) (hb : pc.testBit k = false) (h : LInv w0 m M w') => unhide CM w' k hlt hb h)
      have HWn := hide (fun (hb : pc.testBit k = false) (h : GM M (ins pr r) (ins pc k) ≠ 0) => (show Wid M n pr pc r (ins pr r) (ins pc k) from .inl ⟨k, hlt, hb, rfl, rfl, h⟩))
      have HQn := hide (fun (hb : pc.testBit k = false → GM M (ins pr r) (ins pc k) = 0) => (show ∀ c, c < k + 1 → pc.testBit c = false → GM M (ins pr r) (ins pc c) = 0 from fun c hc hcb => by
        rcases Nat.lt_succ_iff_lt_or_eq.1 hc with h | rfl
        · exact hQ.out c h hcb
        · exact hb hcb))
      generalize GM M (ins pr r) (ins pc k) = gm at *
      clear CM HW
      go_region_held3 (fun w' => Below W0.heap.size W0 w' ∧ w'.cell? ⟨w.heap.size + 1, 0, none⟩ = some (.int .u64 (pr : Int)) ∧ w'.cell? ⟨w.heap.size + 1, 1, none⟩ = some (.int .u64 (pc : Int)))
        (first | assumption | exact unhide HK _ (Below.refl _ _).drew | exact unhide HK _ ((Below.refl _ _).drew.alloc (Nat.le_refl _) _) | exact unhide HK _ ((Below.refl _ _).alloc (Nat.le_refl _) _).drew | fail "KK")
        (first | (go_at_call_of 37 (Value.int IntKind.u64 (pr : Int)); refine (unhide CW1 _).mono ?_; rintro e wx ⟨rfl, rfl⟩) | (go_at_call_of 37 (Value.int IntKind.u64 (pc : Int)); refine (unhide CW2 _).mono ?_; rintro e wx ⟨rfl, rfl⟩) | fail "NO ARM")
      all_goals
        first
          | refine at_then (TailW _ _ _ _ _ _ _ _ _ _ _) (unhide HT _ (And.left (by assumption)) (CellsAt.new _ _ _)) ?_
          | fail "NO WAY"
      all_goals
        rintro W ⟨cg, cl, cp, cx, hIW, hFW, hgl⟩
        have g0 := cg.cell 0; have g1 := cg.cell 1; have l0 := cl.cell 0; have l1 := cl.cell 1; have p1 := cp.cell 1
        simp only [List.getElem?_toArray, List.getElem?_cons_zero, List.getElem?_cons_succ] at g0 g1 l0 l1 p1
        have CG := hide cg; have CL := hide cl; have CP := hide cp; have CX := hide cx; have IW := hide hIW; have FW := hide hFW
        clear cg cl cp cx hIW hFW hL hP hX hIr hF HK HT hQ
        generalize W0.heap.size = g at *
        by_cases hb : pc.testBit k = true
        · rw [hb] at CH
          have HQ2 := hide (unhide HQn (fun h => by rw [hb] at h; cases h))
          clear HQn HWn CM' CW1 CW2
          go_wp2_with (go_at_call 38; refine (unhide CH _).mono ?_; rintro e w' ⟨rfl, rfl⟩)
          go_roundw
          case rel => exact ⟨k + 1, by omega, by go_num, CL, CP, CX, IW, FW, HQ2⟩
          case measure => simp [intOf]; omega
        · have hbf : pc.testBit k = false := by simpa using hb
          rw [hbf] at CH
          clear hb CW1 CW2
          go_wp2_with (go_at_call 38; refine (unhide CH _).mono ?_; rintro e w' ⟨rfl, rfl⟩)
          refine (unhide CM' _ hbf (unhide IW)).mono ?_
          rintro e w2 ⟨v, rfl, ⟨n2, a2, c2, L2, rfl, i2⟩, hI2, hf2⟩
          have cl2 := (unhide CL).fr hf2 (by omega); have cp2 := (unhide CP).fr hf2 (by omega); have cx2 := (unhide CX).fr hf2 (by omega); have cg2 := (unhide CG).fr hf2 (by omega)
          have hf3 := (unhide FW).then (Nat.le_refl _) hf2
          by_cases hz : gm = 0
          · have hl0 : L2.length = 0 := by
              have h5 := i2.2.2.2.2.1
              rw [hz] at h5
              exact List.length_eq_zero_iff.2 ((val_zero_of_canon L2 i2.2.2.1).1 h5)
            have HQ2 := hide (unhide HQn (fun _ => hz))
            clear i2
            generalize L2.length = q at *
            subst hl0
            have hfld := field_limbs n2 a2 0 c2
            have CL2 := hide cl2; have CP2 := hide cp2; have CX2 := hide cx2; have I2 := hide hI2; have F3 := hide hf3
            clear cl2 cp2 cx2 cg2 hf2 hf3 hI2 CL CP CX CG IW FW HQn HWn CM' hz hbf g0 g1 l0 l1 p1
            go_wp2_with fail
            go_roundw
            case rel => exact ⟨k + 1, by omega, by go_num, CL2, CP2, CX2, I2, F3, HQ2⟩
            case measure => simp [intOf]; omega
          · have hl0 : (0 : Int) < (L2.length : Int) := by
              have h5 := i2.2.2.2.2.1
              rcases Nat.eq_zero_or_pos L2.length with h | h
              · rw [List.length_eq_zero_iff.1 h] at h5; simp [val] at h5; omega
              · omega
            have HWW := hide (unhide HWn hbf hz)
            have hlq := i2.2.2.2.2.2
            clear i2
            generalize L2.length = q at *
            have hfld := field_limbs n2 a2 q c2
            have d0 := cg2.cell 0; have d1 := cg2.cell 1; have e0 := cx2.cell 0; have e1 := cx2.cell 1; have f0 := cx2.free 0; have f1 := cx2.free 1
            simp only [List.getElem?_toArray, List.getElem?_cons_zero, List.getElem?_cons_succ] at d0 d1 e0 e1
            have I4 := hide (hI2.pbox cx2 (by omega) 0 1 (.int .u64 (ins pr r : Int)) (.int .u64 (ins pc k : Int)))
            have F4 := hide (hf3.put2 (g := w.heap.size + 1 + 1) (by omega) (.int .u64 (ins pr r : Int)) (.int .u64 (ins pc k : Int)))
            clear cl2 cp2 cx2 cg2 hf2 hf3 hI2 CL CP CX CG IW FW HQn HWn CM' hz hbf g0 g1 l0 l1 p1
            go_wp2_with fail
            refine bodyPost_ret (v := .agg #[.int .u64 (ins pr r : Int), .int .u64 (ins pc k : Int)]) (by simp [results, Try.results19, go_sem, e0, e1]) rfl ⟨ins pr r, ins pc k, rfl, unhide HWW, unhide I4, unhide F4⟩
    · have hkk : k = n := by omega
      have cx2 := unhide hX
      have d0 := (unhide hP).cell 0; have d1 := (unhide hP).cell 1; have e0 := cx2.cell 0; have e1 := cx2.cell 1; have f0 := cx2.free 0; have f1 := cx2.free 1
      simp only [List.getElem?_toArray, List.getElem?_cons_zero, List.getElem?_cons_succ] at d0 d1 e0 e1
      have I4 := hide ((unhide hIr).pbox cx2 (by omega) 0 1 (.int .u64 (pr : Int)) (.int .u64 (pc : Int)))
      have F4 := hide ((unhide hF).put2 (g := w.heap.size + 1 + 1) (by omega) (.int .u64 (pr : Int)) (.int .u64 (pc : Int)))
      have HWW := hide (show Wid M n pr pc r pr pc from .inr ⟨rfl, rfl, fun c hc => hQ.out c (by omega)⟩)
      subst hkk
      clear cx2 hL hP hX hIr hF hQ L2 P2 X2 I2 F2 hrow l20 CM HW CW1
      go_wp2_with fail
      refine bodyPost_ret (v := .agg #[.int .u64 (pr : Int), .int .u64 (pc : Int)]) (by simp [results, Try.results19, go_sem, e0, e1]) rfl ⟨pr, pc, rfl, unhide HWW, unhide I4, unhide F4⟩

end Go.Proofs.Ytnpogpoknbgodaa

/- Contract of exact's Rank: which places it finds. -/
namespace Go.Proofs.Ytnpogpoknbgodaa
open Go.RowKit
attribute [local go_sem ↓] Go.wp_at_zero Go.wp_at_succ

/-- The places found after k rows. -/
inductive RkRun (M : List Rw) (n : Nat) : Nat → Nat → Nat → Prop
  | start : RkRun M n 0 0 0
  | step {k pr pc rr cc : Nat} : RkRun M n k pr pc → Wid M n pr pc k rr cc → RkRun M n (k + 1) rr cc

theorem pow_up (k n : Nat) (h : k ≤ n) : 2 ^ k ≤ 2 ^ n := Nat.pow_le_pow_right (by decide) h

theorem rk_bounds {M : List Rw} {n : Nat} (hn : n ≤ 6) {k pr pc : Nat} (h : RkRun M n k pr pc) (hk : k ≤ 6) : pr < 2 ^ k ∧ pc < 2 ^ n ∧ sz pr = sz pc := by
  induction h with
  | start => exact ⟨by decide, Nat.pow_pos (by decide), rfl⟩
  | @step k pr pc rr cc _ hw ih =>
    obtain ⟨h1, h2, h3⟩ := ih (by omega)
    have hp64 : pr < 64 := Nat.lt_of_lt_of_le h1 (set_full k (by omega)).2
    have hc64 : pc < 64 := Nat.lt_of_lt_of_le h2 (set_full n hn).2
    obtain ⟨hb, hlt⟩ := bit_out k (by omega) pr h1
    rcases hw with ⟨c, hc, hcb, rfl, rfl, _⟩ | ⟨rfl, rfl, _⟩
    · exact ⟨ins_width (k + 1) hk pr hlt k (by omega), ins_width n hn pc h2 c hc, by rw [(ins_facts pr hp64 k (by omega) hb).2, (ins_facts pc hc64 c (by omega) hcb).2, h3]⟩
    · exact ⟨hlt, h2, h3⟩

set_option maxHeartbeats 4000000 in
theorem rank_run (ao : Option Addr) (cap : Nat) (M : List Rw) (w : World) (h : MatAt w ao cap M) (hs : SmallM M) :
    Calls Try.prog 7 #[.slice ao M.length cap] w fun e w' => ∃ k : Nat, e = .returned (.tuple #[.int .i64 (k : Int), .int .i64 (mChk M)]) ∧ (mChk M = 0 → ∃ pr pc, RkRun M (width M) M.length pr pc ∧ k = sz pr) ∧ (mChk M ≠ 0 → k = 0) ∧ Below w.heap.size w w' := by
  have C1 := hide (fun w' h' => mcheck_any ao cap M w' h' hs)
  have HM := hide h
  have hl := hs.1
  by_cases h0 : mChk M = 0
  · have hg := good_of h h0
    have CN := hide (fun w' => newLedger_any ao cap M w')
    have CWD := hide (fun (w1 : World) (m : Nat) (hm : w1.heap.size ≤ m) (hM1 : MatAt w1 ao cap M) (k pr pc : Nat) (w' : World) (hk : k < M.length) (hR : RkRun M (width M) k pr pc) (hI : LInv w1 m M w') =>
      widened_any ao cap M (width M) w1 m hM1 hg hm pr pc k w' hk (rk_bounds hg.2.1 hR (by have := hg.1; omega)).1 (rk_bounds hg.2.1 hR (by have := hg.1; omega)).2.1 (rk_bounds hg.2.1 hR (by have := hg.1; omega)).2.2 hI)
    have HB := hide (fun (pr pc : Nat) (hR : RkRun M (width M) M.length pr pc) => (show pr < 64 from Nat.lt_of_lt_of_le (rk_bounds hg.2.1 hR hg.1).1 (set_full _ hg.1).2))
    rw [h0] at C1 ⊢
    clear hs h hg h0
    go_enter Try.func7, Try.ntmps7
    go_wp2_with fail
    refine (unhide C1 _ (unhide HM)).mono ?_
    rintro e w1 ⟨rfl, hb1⟩
    have HM1 := hide ((unhide HM).below hb1)
    have B1 := hide hb1
    clear hb1 C1 HM
    go_wp2_with fail
    refine (unhide CN _).mono ?_
    rintro e w2 ⟨m, rfl, hm, hI⟩
    have CW := hide (fun k pr pc w' hk hR h => unhide CWD w1 m hm (unhide HM1) k pr pc w' hk hR h)
    have hmw := hI.2.lt
    have hw12 := hI.1.size
    have b2 : Below w2.heap.size w2 ((w2.alloc (.cells #[.slice ao M.length cap, .map (some m)] 47)).alloc (.cells #[.int .u64 0, .int .u64 0] 52)) := ((Below.refl _ _).alloc (Nat.le_refl _) _).alloc (by simp) _
    have I2 := hide (hI.below b2)
    have L2 := hide ((CellsAt.new w2 #[.slice ao M.length cap, .map (some m)] 47).old (.cells #[.int .u64 0, .int .u64 0] 52))
    have p2 := CellsAt.new (w2.alloc (.cells #[.slice ao M.length cap, .map (some m)] 47)) #[.int .u64 0, .int .u64 0] 52
    simp only [World.size_alloc] at p2
    have P2 := hide p2
    clear hI CN CWD p2 b2
    go_wp2_with fail
    go_loopw [18] (fun i wr => ∃ (k pr pc : Nat), k ≤ M.length ∧ i = .int .i64 k ∧ Hid (CellsAt wr w2.heap.size #[.slice ao M.length cap, .map (some m)] 47) ∧ Hid (CellsAt wr (w2.heap.size + 1) #[.int .u64 (pr : Int), .int .u64 (pc : Int)] 52) ∧ Hid (LInv w1 m M wr) ∧ Hid (RkRun M (width M) k pr pc)) (fun i _ => M.length - (intOf i).toNat)
    case atStart => exact ⟨0, 0, 0, Nat.zero_le _, rfl, L2, P2, I2, .start⟩
    case round =>
      obtain ⟨k, pr, pc, hk, rfl, hL, hP, hIr, hR⟩ := hrel
      by_cases hlt : k < M.length
      · have l0 := (unhide hL).cell 0; have l1 := (unhide hL).cell 1; have p0 := (unhide hP).cell 0; have p1 := (unhide hP).cell 1
        simp only [List.getElem?_toArray, List.getElem?_cons_zero, List.getElem?_cons_succ] at l0 l1 p0 p1
        have hkI : (k : Int) < (M.length : Int) := by omega
        clear L2 P2 I2
        go_wp2_with fail
        refine (unhide CW k pr pc _ hlt (unhide hR) (unhide hIr)).mono ?_
        rintro e w3 ⟨rr, cc, rfl, hw, hI3, hf3⟩
        have cl := (unhide hL).fr hf3 (by omega); have cp := (unhide hP).fr hf3 (by omega)
        have e0 := cp.cell 0; have e1 := cp.cell 1; have f0 := cp.free 0; have f1 := cp.free 1
        simp only [List.getElem?_toArray, List.getElem?_cons_zero, List.getElem?_cons_succ] at e0 e1
        have I3 := hide (hI3.pbox cp (by omega) 0 1 (.int .u64 (rr : Int)) (.int .u64 (cc : Int)))
        have L3 := hide (cl.other (g := w2.heap.size + 1) (by omega) 0 1 (.int .u64 (rr : Int)) (.int .u64 (cc : Int)))
        have P3 := hide (cp.put (.int .u64 (rr : Int)) (.int .u64 (cc : Int)))
        have R3 := hide ((unhide hR).step hw)
        clear cl cp hI3 hf3 hL hP hIr hR hw l0 l1 p0 p1
        go_wp2_with fail
        go_roundw
        case rel => exact ⟨k + 1, rr, cc, by omega, by go_num, L3, P3, I3, R3⟩
        case measure => simp [intOf]; omega
      · have hkk : k = M.length := by omega
        subst hkk
        have p0 := (unhide hP).cell 0
        simp only [List.getElem?_toArray, List.getElem?_cons_zero] at p0
        have CS := hide (fun w' => size_any pr w' (unhide HB pr pc (unhide hR)))
        have B4 := hide ((unhide B1).trans ((unhide hIr).1.mono (unhide B1).size))
        have FIN := hide (show ∃ pr' pc', RkRun M (width M) M.length pr' pc' ∧ sz pr = sz pr' from ⟨pr, pc, unhide hR, rfl⟩)
        clear hL hP hIr hR L2 P2 I2 CW
        go_wp2_with (go_at_call 20; refine (unhide CS _).mono ?_; rintro e w' ⟨rfl, rfl⟩)
        refine bodyPost_ret (v := .tuple #[.int .i64 (sz pr : Int), .int .i64 0]) (by simp [results, Try.results7, go_sem]) rfl ?_
        exact ⟨sz pr, rfl, fun _ => unhide FIN, fun h => absurd rfl h, unhide B4⟩
  · have hr := mChk_range M
    generalize mChk M = ce at *
    have hne : (ce == 0) = false := by simp; exact h0
    clear hs h
    go_enter Try.func7, Try.ntmps7
    go_wp2_with fail
    refine (unhide C1 _ (unhide HM)).mono ?_
    rintro e w1 ⟨rfl, hb1⟩
    clear C1 HM
    go_wp2_with fail
    refine bodyPost_ret (v := .tuple #[.int .i64 0, .int .i64 ce]) (by simp [results, Try.results7, go_sem]) rfl ?_
    exact ⟨0, rfl, fun h => absurd h h0, fun _ => rfl, hb1⟩

end Go.Proofs.Ytnpogpoknbgodaa

/- The places that Rank finds: as many as the rank. -/
namespace Go.Proofs.Ytnpogpoknbgodaa

theorem detD_row (r s : Nat → Int) (rs : List (Nat → Int)) : ∀ (pre : List (Nat → Int)) (cs : List Nat), (∀ c ∈ cs, r c = s c) → detD (pre ++ r :: rs) cs = detD (pre ++ s :: rs) cs
  | [], cs, h => exD_row r s cs _ h
  | p :: pre, cs, h => by
    show exD p cs (detD (pre ++ r :: rs)) = exD p cs (detD (pre ++ s :: rs))
    exact exD_congr p cs _ _ (fun l hl _ => detD_row r s rs pre l (fun c hc => h c (hl.subset hc)))

/-- Columns in another order: the same but for the sign. -/
theorem detD_cols (a : Nat → Nat → Int) (P C C' : List Nat) (hl : P.length = C.length) (h : C.Perm C') : detD (P.map a) C' = 0 → detD (P.map a) C = 0 := by
  intro h0
  have e1 := detD_turn a P.length P C rfl hl.symm
  have e2 := detD_turn a P.length P C' rfl (by rw [hl]; exact h.length_eq.symm)
  obtain ⟨p, _, hp⟩ := detD_perm (h.map (fun j => fun i => a i j))
  have e1' : detD (P.map a) C = detD (C.map (fun j => fun i => a i j)) P := e1
  have e2' : detD (P.map a) C' = detD (C'.map (fun j => fun i => a i j)) P := e2
  rw [e1', hp P, ← e2', h0, Int.mul_zero]

theorem detD_coltwice (a : Nat → Nat → Int) (P Q : List Nat) (c : Nat) (hl : P.length = Q.length + 1) (hc : c ∈ Q) : detD (P.map a) (c :: Q) = 0 := by
  have e1 : detD (P.map a) (c :: Q) = detD ((c :: Q).map (fun j => fun i => a i j)) P := detD_turn a P.length P (c :: Q) rfl (by simp [hl])
  obtain ⟨x, y, rfl⟩ := List.append_of_mem hc
  rw [e1, List.map_cons, List.map_append, List.map_cons]
  exact detD_twice _ _ [] _ P

/-- A sum of rows that are among those ahead, or make no minor with them: nothing. -/
theorem detD_comb (a : Nat → Nat → Int) (pre : List (Nat → Int)) (C : List Nat) : ∀ (P : List Nat) (G : List Nat → Int), (∀ i ∈ P, detD (pre ++ [a i]) C = 0) → detD (pre ++ [fun c => exD (fun i => a i c) P G]) C = 0
  | [], G, _ => detD_nought _ [] C (fun _ _ => rfl) pre
  | i :: P, G, h => by
    have e : detD (pre ++ [fun c => exD (fun i => a i c) (i :: P) G]) C = detD (pre ++ [fun c => G P * a i c + (-1) * exD (fun i => a i c) P (fun l => G (i :: l))]) C := by
      refine detD_row _ _ [] pre C (fun c _ => ?_)
      show a i c * G P - exD (fun i => a i c) P (fun l => G (i :: l)) = _
      rw [Int.mul_comm (a i c)]; omega
    rw [e, detD_lin, h i (by simp), detD_comb a pre C P (fun l => G (i :: l)) (fun j hj => h j (by simp [hj]))]
    simp

/-- One row more: minors of one more row. -/
theorem van_add {j k n : Nat} {a : Nat → Nat → Int} (h : Van j a k n) : Van (j + 1) a (k + 1) n := by
  intro I C hI hC lI lC
  rcases List.eq_nil_or_concat I with rfl | ⟨I', x, rfl⟩
  · simp at lI
  · rw [List.concat_eq_append] at *
    have hI' : ∀ i ∈ I', i < x := fun i hi => (List.pairwise_append.1 hI.1).2.2 i hi x (by simp)
    have hx : x < k + 1 := hI.2 x (by simp)
    have hr : Rise k I' := ⟨(List.pairwise_append.1 hI.1).1, fun i hi => by have := hI' i hi; omega⟩
    unfold minorD
    rw [List.map_append, List.map_cons, List.map_nil, detD_last, detD_cons, exD_congr (a x) C _ (fun _ => 0) (fun l hl hlen => ?_), exD_zero, Int.mul_zero]
    exact h I' l hr (hC.sub hl) (by simpa using lI) (by omega)

/-- A row with which no minor about one that is not 0 is not 0 either: it adds nothing. -/
theorem van_keep {k n : Nat} {a : Nat → Nat → Int} (P Q : List Nat) (hP : ∀ i ∈ P, i < k) (hl : P.length = Q.length) (hd : detD (P.map a) Q ≠ 0) (h0 : ∀ c, c < n → detD ((P ++ [k]).map a) (c :: Q) = 0) (hv : Van (P.length + 1) a k n) : Van (P.length + 1) a (k + 1) n := by
  intro I C hI hC lI lC
  rcases List.eq_nil_or_concat I with rfl | ⟨I', x, rfl⟩
  · simp at lI
  · rw [List.concat_eq_append] at *
    have hI' : ∀ i ∈ I', i < x := fun i hi => (List.pairwise_append.1 hI.1).2.2 i hi x (by simp)
    have hx : x < k + 1 := hI.2 x (by simp)
    have hr : ∀ i ∈ I', i < k := fun i hi => by have := hI' i hi; omega
    by_cases hxk : x < k
    · exact hv _ C ⟨hI.1, fun i hi => by
        rcases List.mem_append.1 hi with h | h
        · exact hr i h
        · simp at h; omega⟩ hC lI lC
    · obtain rfl : x = k := by omega
      unfold minorD
      rw [List.map_append, List.map_cons, List.map_nil]
      -- the row, times the minor, is a sum of rows
      have key : ∀ c, c < n → detD (P.map a) Q * a x c = -((-1) ^ P.length) * exD (fun i => a i c) P (fun l => detD (Q.map (fun j => fun i => a i j)) (l ++ [x])) := by
        intro c hc
        have e1 : detD ((P ++ [x]).map a) (c :: Q) = detD ((c :: Q).map (fun j => fun i => a i j)) (P ++ [x]) := detD_turn a (P.length + 1) (P ++ [x]) (c :: Q) (by simp) (by simp [hl])
        have e2 : detD (P.map a) Q = detD (Q.map (fun j => fun i => a i j)) P := detD_turn a P.length P Q rfl hl.symm
        rw [h0 c hc, List.map_cons, detD_cons, exD_snoc, ← e2] at e1
        generalize exD (fun i => a i c) P (fun l => detD (Q.map (fun j => fun i => a i j)) (l ++ [x])) = u at e1 ⊢
        generalize detD (P.map a) Q = d at e1 ⊢
        generalize a x c = y at e1 ⊢
        rcases parity P.length with ⟨p1, _⟩ | ⟨p1, _⟩
        · rw [p1] at e1 ⊢; rw [Int.mul_comm d y]; omega
        · rw [p1] at e1 ⊢; rw [Int.mul_comm d y]; omega
      have hz : detD (I'.map a ++ [fun c => exD (fun i => a i c) P (fun l => detD (Q.map (fun j => fun i => a i j)) (l ++ [x]))]) C = 0 := by
        refine detD_comb a (I'.map a) C P _ (fun i hi => ?_)
        have := hv.all (I' ++ [i]) C (fun q hq => by
          rcases List.mem_append.1 hq with h | h
          · exact hr q h
          · simp at h; subst h; exact hP _ hi) hC (by simpa using lI) lC
        unfold minorD at this
        simpa using this
      have hs : detD (P.map a) Q * detD (I'.map a ++ [a x]) C = 0 := by
        have e3 : detD (I'.map a ++ [fun c => detD (P.map a) Q * a x c + 0 * a x c]) C = detD (P.map a) Q * detD (I'.map a ++ [a x]) C := by
          rw [detD_lin]; simp
        have e4 : detD (I'.map a ++ [fun c => detD (P.map a) Q * a x c + 0 * a x c]) C = detD (I'.map a ++ [fun c => (-((-1) ^ P.length)) * exD (fun i => a i c) P (fun l => detD (Q.map (fun j => fun i => a i j)) (l ++ [x])) + 0 * a x c]) C := by
          refine detD_row _ _ [] _ C (fun c hc => ?_)
          rw [key c (hC.2 c hc)]
        rw [← e3, e4, detD_lin, hz]; simp
      exact (Int.mul_eq_zero.1 hs).resolve_left hd

theorem ins_perm : ∀ s, s < 64 → ∀ c, c < 6 → s.testBit c = false → (c :: elems s).isPerm (elems (ins s c)) = true := by decide +kernel
theorem mem_elems : ∀ s, s < 64 → ∀ c, c < 6 → s.testBit c = true → c ∈ elems s := by decide +kernel
theorem elems_rise : ∀ s, s < 64 → (elems s).Pairwise (· < ·) := by decide +kernel

theorem rk_math {M : List Rw} {n : Nat} (hn : n ≤ 6) {k pr pc : Nat} (h : RkRun M n k pr pc) (hk : k ≤ 6) : GM M pr pc ≠ 0 ∧ Van (sz pr + 1) (valM M) k n := by
  induction h with
  | start =>
    refine ⟨?_, van_over (.inl (by omega))⟩
    unfold GM; rw [elems_zero]; show (1 : Int) ≠ 0; decide
  | @step k pr pc rr cc hrun hw ih =>
    obtain ⟨hd, hv⟩ := ih (by omega)
    obtain ⟨h1, h2, h3⟩ := rk_bounds hn hrun (by omega)
    have hp64 : pr < 64 := Nat.lt_of_lt_of_le h1 (set_full k (by omega)).2
    have hc64 : pc < 64 := Nat.lt_of_lt_of_le h2 (set_full n hn).2
    obtain ⟨hb, hlt⟩ := bit_out k (by omega) pr h1
    have hpk := (set_width k (by omega) pr h1).2.2.2
    rcases hw with ⟨c, hc, hcb, rfl, rfl, hne⟩ | ⟨rfl, rfl, hz⟩
    · refine ⟨hne, ?_⟩
      rw [(ins_facts pr hp64 k (by omega) hb).2]
      exact van_add hv
    · refine ⟨hd, van_keep (elems rr) (elems cc) hpk h3 hd (fun c hc => ?_) hv⟩
      by_cases hcb : cc.testBit c = true
      · exact detD_coltwice _ _ _ _ (by simp; exact h3) (mem_elems cc hc64 c (by omega) hcb)
      · have hcf : cc.testBit c = false := by simpa using hcb
        refine detD_cols _ _ _ _ (by simp; exact h3) (List.isPerm_iff.1 (ins_perm cc hc64 c (by omega) hcf)) ?_
        have := hz c hc hcf
        unfold GM at this
        rwa [(ins_elems rr hp64 k (by omega) hpk).1] at this

theorem rk_rank {M : List Rw} {n : Nat} (hn : n ≤ 6) {k pr pc : Nat} (h : RkRun M n k pr pc) (hk : k ≤ 6) : IsRank (sz pr) (valM M) k n := by
  obtain ⟨hd, hv⟩ := rk_math hn h hk
  obtain ⟨h1, h2, h3⟩ := rk_bounds hn h hk
  refine ⟨fun hvan => hd ?_, hv⟩
  have hp64 : pr < 64 := Nat.lt_of_lt_of_le h1 (set_full k hk).2
  have hc64 : pc < 64 := Nat.lt_of_lt_of_le h2 (set_full n hn).2
  exact hvan (elems pr) (elems pc) ⟨elems_rise pr hp64, (set_width k hk pr h1).2.2.2⟩ ⟨elems_rise pc hc64, (set_width n hn pc h2).2.2.2⟩ rfl h3.symm

open Go.RowKit in
/-- What Rank answers. -/
theorem rank_any (ao : Option Addr) (cap : Nat) (M : List Rw) (w : World) (h : MatAt w ao cap M) (hs : SmallM M) :
    Calls Try.prog 7 #[.slice ao M.length cap] w fun e w' => ∃ k : Nat, e = .returned (.tuple #[.int .i64 (k : Int), .int .i64 (mChk M)]) ∧ (mChk M = 0 → IsRank k (valM M) M.length (width M)) ∧ (mChk M ≠ 0 → k = 0) ∧ Below w.heap.size w w' := by
  refine (rank_run ao cap M w h hs).mono ?_
  rintro e w' ⟨k, h1, h2, h3, h4⟩
  refine ⟨k, h1, fun h0 => ?_, h3, h4⟩
  obtain ⟨pr, pc, hr, rfl⟩ := h2 h0
  have hg := good_of h h0
  exact rk_rank hg.2.1 hr hg.1

end Go.Proofs.Ytnpogpoknbgodaa

/- Contract of the reference's minus. -/
namespace Go.Proofs.Ytnpogpoknbgodaa
open Go.RowKit

set_option maxHeartbeats 400000 in
theorem minus_any (ao bo : Option Addr) (ca cb : Nat) (A B : List Nat) (w : World) (hA : LimbsAt w ao ca A) (hB : LimbsAt w bo cb B) (la : A.length ≤ 35184372088830) (lb : B.length ≤ 35184372088830) (hv : val B ≤ val A) :
    Calls Try.prog 28 #[.slice ao A.length ca, .slice bo B.length cb] w fun e w' => ∃ ao' cap' L', e = .returned (.slice ao' L'.length cap') ∧ LimbsAt w' ao' cap' L' ∧ NewAt w.heap.size ao' L' ∧ L'.length = A.length ∧ val L' = val A - val B ∧ Below w.heap.size w w' := by
  obtain ⟨i0, hi, hz0, hz1, hz2⟩ := info_parts Try.info60
  have hst : ∀ (S : List Nat) (c x y t c' : Nat), A[S.length]?.getD 0 = x → B[S.length]?.getD 0 = y → t + y + c = x + 4294967296 * c' → val S + val (B.take S.length) = val (A.take S.length) + 4294967296 ^ S.length * c → val (S ++ [t]) + val (B.take (S.length + 1)) = val (A.take (S.length + 1)) + 4294967296 ^ (S.length + 1) * c' := fun S c x y t c' => minus_step A B S c x y t c'
  have hen : ∀ (S : List Nat) (c : Nat), Fits S → S.length = A.length → val S + val (B.take S.length) = val (A.take S.length) + 4294967296 ^ S.length * c → val S = val A - val B := by
    intro S c f hl h
    refine sub_end A B S A.length c f hl rfl hv (take_le A B hA.2.1 hv) ?_
    rw [← hl, List.take_length]; exact h
  have HST := hide hst
  have HEN := hide hen
  clear hst hen hv
  go_enter Try.func28, Try.ntmps28
  go_wp2
  go_loopw [5, 6, 7] (fun v c i wr => ∃ (S : List Nat) (y : Nat), S.length ≤ A.length ∧ i = .int .i64 (S.length : Nat) ∧ c = .int .u64 y ∧ y ≤ 1 ∧ wr.ownsRow w.heap.size 60 1 v S.length (S.map limbV) ∧ Fits S ∧ Below w.heap.size w wr ∧ Hid (val S + val (B.take S.length) = val (A.take S.length) + 4294967296 ^ S.length * y))
    (fun _ _ i _ => A.length - (intOf i).toNat)
  case atStart =>
    refine ⟨[], 0, by simp, rfl, rfl, by omega, ?_, by intro x hx; simp at hx, (Below.refl _ _).alloc (Nat.le_refl _) _, by unfold Hid; simp [val]⟩
    exact World.ownsRow_made w #[] 0 (Nat.le_refl _) (by simp [maxLen]) (by simp)
  case round =>
    obtain ⟨S, y, hk, rfl, rfl, hy, hown, hf, hbel, hv⟩ := hrel
    by_cases hlt : S.length < A.length
    · obtain ⟨xa, hxa⟩ : ∃ x, A[S.length]?.getD 0 = x := ⟨_, rfl⟩
      obtain ⟨xb, hxb⟩ : ∃ x, B[S.length]?.getD 0 = x := ⟨_, rfl⟩
      have ba : xa < 4294967296 := by rw [← hxa]; exact hA.lt _
      have bb : xb < 4294967296 := by rw [← hxb]; exact hB.lt _
      have cA := hA.below hbel
      have cB := hB.below hbel
      have HS2 := hide (unhide HST S y xa xb ((4294967296 + xa - xb - y) % 4294967296) (1 - (4294967296 + xa - xb - y) / 4294967296) hxa hxb (by omega) hv.out)
      have HXA := hide hxa
      have HXB := hide hxb
      have hsz := hbel.size
      have HF := hide hf
      clear hxa hxb hv HST HEN hf
      generalize hSl : S.length = k at *
      have HSL := hide hSl
      clear hSl
      go_wp2_with (first | (go_at_call_of 42 (Value.slice ao A.length ca); refine (limb_x ao ca A _ k xa _ cA la rfl HXA).mono ?_; rintro e w' ⟨rfl, rfl⟩) | (go_at_call_of 42 (Value.slice bo B.length cb); refine (limb_x bo cb B _ k xb _ cB lb rfl HXB).mono ?_; rintro e w' ⟨rfl, rfl⟩) | (at_builtin; refine wpList_append_own _ rfl _ _ 33 rfl w.heap.size 60 i0 (.int .u32 0) 1 4 Try.underlying33 hi hz0 hz1 hz2 rfl (by decide) _ _ _ rfl (hown.alloc _) ⟨wr.heap.size, 0, none⟩ 1 1 [.int .u32 ((4294967296 + (xa : Int) - (xb : Int) - (y : Int)) % 4294967296)] rfl rfl (cell_one_new _ _ _) (fun u hu => by simp at hu; subst hu; rfl) (by unfold maxLen; omega) (by omega) (by simp; omega) ?_; intro v' w1 hown' hgrow _; have hbl : Below w.heap.size w w1 := ((hbel.alloc hsz _).grown hgrow (by simp; omega) (fun g hg => (hown.lt g hg).1)); have ho2 := hide (own_snoc (x := (4294967296 + xa - xb - y) % 4294967296) hown' (by omega)); clear hown' hgrow))
      have hS2 := unhide HS2
      have hl2 : (S ++ [(4294967296 + xa - xb - y) % 4294967296]).length = k + 1 := by simp [unhide HSL]
      go_roundw
      case rel => exact ⟨S ++ [(4294967296 + xa - xb - y) % 4294967296], 1 - (4294967296 + xa - xb - y) / 4294967296, by omega, by rw [hl2]; go_num, int_eq (by omega), by omega, by rw [hl2]; exact unhide ho2, (unhide HF).snoc (by omega), hbl, by rw [hl2]; exact hS2⟩
      case measure => simp [intOf]; omega
    · have hend := unhide HEN S y hf (by omega) hv.out
      have HEND := hide hend
      obtain ⟨ao', cap', e1, e2, e3, e4⟩ := own_limbs hown hf
      have E2 := hide e2
      have E3 := hide e3
      have hsl : S.length = A.length := by omega
      have HSL := hide hsl
      subst e1
      clear hend hv HST hown e2 e3 e4 HEN hsl
      go_wp2
      go_ret
      exact ⟨ao', cap', S, rfl, unhide E2, unhide E3, unhide HSL, unhide HEND, hbel⟩

end Go.Proofs.Ytnpogpoknbgodaa

/- Contract of the reference's Add. -/
namespace Go.Proofs.Ytnpogpoknbgodaa
open Go.RowKit
attribute [local go_sem ↓] Go.wp_at_zero Go.wp_at_succ

set_option maxHeartbeats 1000000 in
theorem refAdd_same (na : Bool) (ao bo : Option Addr) (ca cb : Nat) (A B : List Nat) (w : World) (hA : LimbsAt w ao ca A) (hB : LimbsAt w bo cb B) (la : A.length ≤ 35184372088830) (lb : B.length ≤ 35184372088830) :
    Calls Try.prog 10 #[.agg #[.bool na, .slice ao A.length ca], .agg #[.bool na, .slice bo B.length cb]] w fun e w' => ∃ v, e = .returned v ∧ IsNumM (max A.length B.length + 1) w.heap.size w' v (sval na A + sval na B) ∧ Below w.heap.size w w' := by
  have hsum : ∀ L : List Nat, val L = val A + val B → sval na L = sval na A + sval na B := by
    intro L h; unfold sval; cases na <;> simp [h] <;> omega
  have HS := hide hsum
  clear hsum
  generalize sval na A + sval na B = z at *
  go_enter Try.func10, Try.ntmps10
  go_wp2
  refine at_world (fun W => Below w.heap.size w W ∧ W.heap.size = w.heap.size + 3 ∧ Box2 W w.heap.size (.bool na) (.slice ao A.length ca) ∧ Box2 W (w.heap.size + 1) (.bool na) (.slice bo B.length cb) ∧ Box2 W (w.heap.size + 2) (.bool false) (.slice none 0 0)) ?_ ?_
  · refine ⟨((((Below.refl _ _).alloc (Nat.le_refl _) _).alloc (by simp) _).alloc (by simp; omega) _), by simp, ((Box2.new _ _ _).old _).old _, ?_, ?_⟩
    · have := (Box2.new (w.alloc (.cells #[.bool na, .slice ao A.length ca] 35)) (.bool na) (.slice bo B.length cb)).old (.cells #[.bool false, .slice none 0 0] 35)
      simpa using this
    · have := Box2.new ((w.alloc (.cells #[.bool na, .slice ao A.length ca] 35)).alloc (.cells #[.bool na, .slice bo B.length cb] 35)) (.bool false) (.slice none 0 0)
      simpa using this
  rintro W0 ⟨hw0, hs0, x0, x1, x2⟩
  have hK : ∀ w', Below (w.heap.size + 2) W0 w' → Below (w.heap.size + 2) W0 w' ∧ w'.cell? ⟨w.heap.size, 0, none⟩ = some (.bool na) ∧ w'.cell? ⟨w.heap.size, 1, none⟩ = some (.slice ao A.length ca) ∧ w'.cell? ⟨w.heap.size + 1, 1, none⟩ = some (.slice bo B.length cb) := fun w' h =>
    ⟨h, (x0.below h (by omega)).c0, (x0.below h (by omega)).c1, (x1.below h (by omega)).c1⟩
  have HK := hide hK
  have HA := hide (hA.below hw0)
  have HB := hide (hB.below hw0)
  have X2 := hide x2
  have HW0 := hide hw0
  clear hK hA hB x0 x1 x2 hw0
  go_region_held3 (fun w' => Below (w.heap.size + 2) W0 w' ∧ w'.cell? ⟨w.heap.size, 0, none⟩ = some (.bool na) ∧ w'.cell? ⟨w.heap.size, 1, none⟩ = some (.slice ao A.length ca) ∧ w'.cell? ⟨w.heap.size + 1, 1, none⟩ = some (.slice bo B.length cb))
    (first | exact unhide HK _ (Below.refl _ _).drew | exact unhide HK _ (by assumption) | exact unhide HK _ ((hB2.setCell (by simp) _).setCell (by simp) _))
    (first | (go_at_call 26; refine (plus_any ao bo ca cb A B _ ((unhide HA).below ((Below.refl _ _).drew)) ((unhide HB).below ((Below.refl _ _).drew)) la lb).mono ?_; rintro e w1 ⟨ao', cap', L', rfl, g1, g2, g3, g4, hb1⟩; have hB1 : Below (w.heap.size + 2) W0 w1 := ((Below.refl _ _).drew).trans (hb1.mono (by simp [hs0])); have X3 := hide ((unhide X2).drew.below hb1 (by simp [hs0])); have G1 := hide g1; have G2 := hide g2; have G4 := hide g4; have L4 : L'.length ≤ 35184372088832 := (by omega); have L5 : L'.length ≤ max A.length B.length + 1 := (by omega); have s1 := hb1.size; clear g1 g2 g4 g3 hb1) | (go_at_call 25; refine (made_any _ na _ _ _ _ (unhide G1) (unhide G2) L4).mono ?_; rintro e w2 ⟨v, rfl, ⟨n2, a2, c2, L2, rfl, i1⟩, hb2⟩; have hB2 : Below (w.heap.size + 2) W0 w2 := hB1.trans (hb2.mono (by simp at s1; omega)); have X4 := (unhide X3).below hb2 (by simp at s1; omega); have y0 := X4.c0; have y1 := X4.c1; have f0 := X4.free 0; have f1 := X4.free 1; have I1 := hide i1; clear i1 hb2 X4))
  have hz := unhide HS L' (unhide G4)
  have HI := hide (hz ▸ unhide I1)
  clear hz
  go_wp2
  refine bodyPost_ret (v := .agg #[.bool n2, .slice a2 L2.length c2]) (by simp [results, Try.results10, go_sem, y0, y1]) rfl ⟨.agg #[.bool n2, .slice a2 L2.length c2], rfl, ?_, ?_⟩
  · exact (IsNumM.stored (unhide HI) (by simp; omega) (by simp; omega) (by simp; omega) _ _).more (by have := L5; omega)
  · exact (((unhide HW0).trans (hB2.mono (by omega))).setCell (by simp; omega) _).setCell (by simp; omega) _

set_option maxHeartbeats 1000000 in
theorem refAdd_diff (na nb : Bool) (ao bo : Option Addr) (ca cb : Nat) (A B : List Nat) (w : World) (hA : LimbsAt w ao ca A) (hB : LimbsAt w bo cb B) (la : A.length ≤ 35184372088830) (lb : B.length ≤ 35184372088830) (hn : na ≠ nb) :
    Calls Try.prog 10 #[.agg #[.bool na, .slice ao A.length ca], .agg #[.bool nb, .slice bo B.length cb]] w fun e w' => ∃ v, e = .returned v ∧ IsNumM (max A.length B.length + 1) w.heap.size w' v (sval na A + sval nb B) ∧ Below w.heap.size w w' := by
  have hsum : (∀ L : List Nat, val L = val B - val A → val A < val B → sval nb L = sval na A + sval nb B) ∧ (∀ L : List Nat, val L = val A - val B → val B ≤ val A → sval na L = sval na A + sval nb B) := by
    constructor <;> intro L h h' <;> unfold sval <;> cases na <;> cases nb <;> simp at hn <;> simp [h] <;> omega
  have HS := hide hsum
  clear hsum
  generalize sval na A + sval nb B = z at *
  have hne : (na == nb) = false := by simpa using hn
  clear hn
  go_enter Try.func10, Try.ntmps10
  go_wp2_with fail
  refine (more_any ao bo ca cb A B _ (hA.below ?_) (hB.below ?_) (by omega) (by omega)).mono ?_
  · exact (((Below.refl _ _).alloc (Nat.le_refl _) _).alloc (by simp) _).alloc (by simp; omega) _
  · exact (((Below.refl _ _).alloc (Nat.le_refl _) _).alloc (by simp) _).alloc (by simp; omega) _
  rintro e w' ⟨rfl, rfl⟩
  by_cases hv : val A < val B
  · rw [cmpI_lt (by omega)]
    have HS1 := hide (fun L h => (unhide HS).1 L h hv)
    clear HS
    go_wp2
    refine at_world (fun W => Below w.heap.size w W ∧ W.heap.size = w.heap.size + 3 ∧ Box2 W w.heap.size (.bool na) (.slice ao A.length ca) ∧ Box2 W (w.heap.size + 1) (.bool nb) (.slice bo B.length cb) ∧ Box2 W (w.heap.size + 2) (.bool false) (.slice none 0 0)) ?_ ?_
    · refine ⟨((((Below.refl _ _).alloc (Nat.le_refl _) _).alloc (by simp) _).alloc (by simp; omega) _), by simp, (((Box2.new _ _ _).old _).old _), ?_, ?_⟩
      · have := ((Box2.new (w.alloc (.cells #[.bool na, .slice ao A.length ca] 35)) (.bool nb) (.slice bo B.length cb)).old (.cells #[.bool false, .slice none 0 0] 35))
        simpa using this
      · have := (Box2.new ((w.alloc (.cells #[.bool na, .slice ao A.length ca] 35)).alloc (.cells #[.bool nb, .slice bo B.length cb] 35)) (.bool false) (.slice none 0 0))
        simpa using this
    rintro W0 ⟨hw0, hs0, x0, x1, x2⟩
    have hK : ∀ w', Below (w.heap.size + 2) W0 w' → Below (w.heap.size + 2) W0 w' ∧ w'.cell? ⟨w.heap.size + 1, 0, none⟩ = some (.bool nb) ∧ w'.cell? ⟨w.heap.size, 1, none⟩ = some (.slice ao A.length ca) ∧ w'.cell? ⟨w.heap.size + 1, 1, none⟩ = some (.slice bo B.length cb) := fun w' h =>
      ⟨h, (x1.below h (by omega)).c0, (x0.below h (by omega)).c1, (x1.below h (by omega)).c1⟩
    have HK := hide hK
    have HA := hide (hA.below hw0)
    have HB := hide (hB.below hw0)
    have X2 := hide x2
    have HW0 := hide hw0
    have hv' : val A ≤ val B := by omega
    clear hK hA hB x0 x1 x2 hw0
    go_region_held3 (fun w' => Below (w.heap.size + 2) W0 w' ∧ w'.cell? ⟨w.heap.size + 1, 0, none⟩ = some (.bool nb) ∧ w'.cell? ⟨w.heap.size, 1, none⟩ = some (.slice ao A.length ca) ∧ w'.cell? ⟨w.heap.size + 1, 1, none⟩ = some (.slice bo B.length cb))
      (first | exact unhide HK _ (Below.refl _ _).drew | exact unhide HK _ (by assumption) | exact unhide HK _ ((hB2.setCell (by simp) _).setCell (by simp) _))
      (first | (go_at_call 28; refine (minus_any bo ao cb ca B A _ ((unhide HB).below ((Below.refl _ _).drew)) ((unhide HA).below ((Below.refl _ _).drew)) lb la hv').mono ?_; rintro e w1 ⟨ao', cap', L', rfl, g1, g2, g3, g4, hb1⟩; have hB1 : Below (w.heap.size + 2) W0 w1 := ((Below.refl _ _).drew).trans (hb1.mono (by simp [hs0])); have X3 := hide ((unhide X2).drew.below hb1 (by simp [hs0])); have G1 := hide g1; have G2 := hide g2; have G4 := hide g4; have L4 : L'.length ≤ 35184372088832 := (by omega); have L5 : L'.length ≤ max A.length B.length + 1 := (by omega); have s1 := hb1.size; clear g1 g2 g4 g3 hb1) | (go_at_call 25; refine (made_any _ nb _ _ _ _ (unhide G1) (unhide G2) L4).mono ?_; rintro e w2 ⟨v, rfl, ⟨n2, a2, c2, L2, rfl, i1⟩, hb2⟩; have hB2 : Below (w.heap.size + 2) W0 w2 := hB1.trans (hb2.mono (by simp at s1; omega)); have X4 := (unhide X3).below hb2 (by simp at s1; omega); have y0 := X4.c0; have y1 := X4.c1; have f0 := X4.free 0; have f1 := X4.free 1; have I1 := hide i1; clear i1 hb2 X4))
    have hz := unhide HS1 L' (unhide G4)
    have HI := hide (hz ▸ unhide I1)
    clear hz
    go_wp2
    refine bodyPost_ret (v := .agg #[.bool n2, .slice a2 L2.length c2]) (by simp [results, Try.results10, go_sem, y0, y1]) rfl ⟨.agg #[.bool n2, .slice a2 L2.length c2], rfl, ?_, ?_⟩
    · exact (IsNumM.stored (unhide HI) (by simp; omega) (by simp; omega) (by simp; omega) _ _).more (by have := L5; omega)
    · exact (((unhide HW0).trans (hB2.mono (by omega))).setCell (by simp; omega) _).setCell (by simp; omega) _
  · have hge : ¬ cmpI (val A) (val B) < 0 := by unfold cmpI; rw [if_neg (by omega)]; split <;> omega
    generalize cmpI (val A) (val B) = cm at *
    have HS1 := hide (fun L h => (unhide HS).2 L h (by omega))
    clear HS
    go_wp2
    refine at_world (fun W => Below w.heap.size w W ∧ W.heap.size = w.heap.size + 3 ∧ Box2 W w.heap.size (.bool na) (.slice ao A.length ca) ∧ Box2 W (w.heap.size + 1) (.bool nb) (.slice bo B.length cb) ∧ Box2 W (w.heap.size + 2) (.bool false) (.slice none 0 0)) ?_ ?_
    · refine ⟨((((Below.refl _ _).alloc (Nat.le_refl _) _).alloc (by simp) _).alloc (by simp; omega) _), by simp, (((Box2.new _ _ _).old _).old _), ?_, ?_⟩
      · have := ((Box2.new (w.alloc (.cells #[.bool na, .slice ao A.length ca] 35)) (.bool nb) (.slice bo B.length cb)).old (.cells #[.bool false, .slice none 0 0] 35))
        simpa using this
      · have := (Box2.new ((w.alloc (.cells #[.bool na, .slice ao A.length ca] 35)).alloc (.cells #[.bool nb, .slice bo B.length cb] 35)) (.bool false) (.slice none 0 0))
        simpa using this
    rintro W0 ⟨hw0, hs0, x0, x1, x2⟩
    have hK : ∀ w', Below (w.heap.size + 2) W0 w' → Below (w.heap.size + 2) W0 w' ∧ w'.cell? ⟨w.heap.size, 0, none⟩ = some (.bool na) ∧ w'.cell? ⟨w.heap.size, 1, none⟩ = some (.slice ao A.length ca) ∧ w'.cell? ⟨w.heap.size + 1, 1, none⟩ = some (.slice bo B.length cb) := fun w' h =>
      ⟨h, (x0.below h (by omega)).c0, (x0.below h (by omega)).c1, (x1.below h (by omega)).c1⟩
    have HK := hide hK
    have HA := hide (hA.below hw0)
    have HB := hide (hB.below hw0)
    have X2 := hide x2
    have HW0 := hide hw0
    have hv' : val B ≤ val A := by omega
    clear hK hA hB x0 x1 x2 hw0
    go_region_held3 (fun w' => Below (w.heap.size + 2) W0 w' ∧ w'.cell? ⟨w.heap.size, 0, none⟩ = some (.bool na) ∧ w'.cell? ⟨w.heap.size, 1, none⟩ = some (.slice ao A.length ca) ∧ w'.cell? ⟨w.heap.size + 1, 1, none⟩ = some (.slice bo B.length cb))
      (first | exact unhide HK _ (Below.refl _ _).drew | exact unhide HK _ (by assumption) | exact unhide HK _ ((hB2.setCell (by simp) _).setCell (by simp) _))
      (first | (go_at_call 28; refine (minus_any ao bo ca cb A B _ ((unhide HA).below ((Below.refl _ _).drew)) ((unhide HB).below ((Below.refl _ _).drew)) la lb hv').mono ?_; rintro e w1 ⟨ao', cap', L', rfl, g1, g2, g3, g4, hb1⟩; have hB1 : Below (w.heap.size + 2) W0 w1 := ((Below.refl _ _).drew).trans (hb1.mono (by simp [hs0])); have X3 := hide ((unhide X2).drew.below hb1 (by simp [hs0])); have G1 := hide g1; have G2 := hide g2; have G4 := hide g4; have L4 : L'.length ≤ 35184372088832 := (by omega); have L5 : L'.length ≤ max A.length B.length + 1 := (by omega); have s1 := hb1.size; clear g1 g2 g4 g3 hb1) | (go_at_call 25; refine (made_any _ na _ _ _ _ (unhide G1) (unhide G2) L4).mono ?_; rintro e w2 ⟨v, rfl, ⟨n2, a2, c2, L2, rfl, i1⟩, hb2⟩; have hB2 : Below (w.heap.size + 2) W0 w2 := hB1.trans (hb2.mono (by simp at s1; omega)); have X4 := (unhide X3).below hb2 (by simp at s1; omega); have y0 := X4.c0; have y1 := X4.c1; have f0 := X4.free 0; have f1 := X4.free 1; have I1 := hide i1; clear i1 hb2 X4))
    have hz := unhide HS1 L' (unhide G4)
    have HI := hide (hz ▸ unhide I1)
    clear hz
    go_wp2
    refine bodyPost_ret (v := .agg #[.bool n2, .slice a2 L2.length c2]) (by simp [results, Try.results10, go_sem, y0, y1]) rfl ⟨.agg #[.bool n2, .slice a2 L2.length c2], rfl, ?_, ?_⟩
    · exact (IsNumM.stored (unhide HI) (by simp; omega) (by simp; omega) (by simp; omega) _ _).more (by have := L5; omega)
    · exact (((unhide HW0).trans (hB2.mono (by omega))).setCell (by simp; omega) _).setCell (by simp; omega) _

theorem refAdd_any (na nb : Bool) (ao bo : Option Addr) (ca cb : Nat) (A B : List Nat) (w : World) (hA : LimbsAt w ao ca A) (hB : LimbsAt w bo cb B) (la : A.length ≤ 35184372088830) (lb : B.length ≤ 35184372088830) :
    Calls Try.prog 10 #[.agg #[.bool na, .slice ao A.length ca], .agg #[.bool nb, .slice bo B.length cb]] w fun e w' => ∃ v, e = .returned v ∧ IsNumM (max A.length B.length + 1) w.heap.size w' v (sval na A + sval nb B) ∧ Below w.heap.size w w' := by
  by_cases hn : na = nb
  · subst hn; exact refAdd_same na ao bo ca cb A B w hA hB la lb
  · exact refAdd_diff na nb ao bo ca cb A B w hA hB la lb hn

end Go.Proofs.Ytnpogpoknbgodaa

