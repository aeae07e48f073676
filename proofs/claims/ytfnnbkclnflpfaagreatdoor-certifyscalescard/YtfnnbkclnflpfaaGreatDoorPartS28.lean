/- Part 28 of the texts. -/
import Derived.Test.YtfnnbkclnflpfaaGreatDoorPartS26
import Derived.Test.YtfnnbkclnflpfaaGreatDoorPartS22
import Derived.Test.YtfnnbkclnflpfaaGreatDoorPartS27
import Derived.Test.YtfnnbkclnflpfaaGreatDoorPartS25
/- Package certify: Check, checkProduct. -/
namespace Go.Proofs.YtfnnbkclnflpfaaGreatDoor
open Go.RowKit
attribute [local go_sem ↓] Go.wp_at_zero Go.wp_at_succ

/-- What Check answers. -/
def ckE (r c : Int) (I : List Int) : Int := if okB r c I.length = true then (if fnK I I.length = true then 0 else 4) else 1

set_option maxRecDepth 20000 in
set_option maxHeartbeats 4000000 in
theorem ccheck_any (r c : Int) (ao : Option Addr) (cap : Nat) (I : List Int) (w : World) (hI : BitsAt w ao cap I) (hn : I.length ≤ 35184372088830) :
    Calls Tryz.prog 12 #[.agg #[.int .i64 r, .int .i64 c, .slice ao I.length cap]] w fun e w' => e = .returned (.int .i64 (ckE r c I)) ∧ Below w.heap.size w w' := by
  have HC := hide (fun w' => mcheck_any r c ao I.length cap w' hn)
  have b0 := below_alloc9 w (.cells #[.int .i64 r, .int .i64 c, .slice ao I.length cap] 24)
  have B0 := hide b0; have X0 := hide (BoxM.new w (.int .i64 r) (.int .i64 c) (.slice ao I.length cap)); have HI := hide hI
  clear b0 hI
  cases ho : okB r c I.length
  · rw [ho] at HC
    have e : ckE r c I = 1 := by unfold ckE; rw [ho]; rfl
    rw [e]
    rw [if_neg (by decide)] at HC
    clear e ho
    go_enter Tryz.func12, Tryz.ntmps12
    go_wp2_with fail
    refine (unhide HC _).mono ?_
    rintro e w1 ⟨rfl, hb1⟩
    clear HC
    go_wp2
    go_ret
    exact ⟨rfl, (unhide B0).trans (hb1.mono (unhide B0).size)⟩
  · rw [ho] at HC
    rw [if_pos rfl] at HC
    have e : ckE r c I = if fnK I I.length = true then 0 else 4 := by unfold ckE; rw [ho]; rfl
    rw [e]
    clear e ho
    obtain ⟨fe, hfe⟩ : ∃ fe : Int, (if fnK I I.length = true then 0 else 4) = fe := ⟨_, rfl⟩
    rw [hfe]
    obtain ⟨n, hnn⟩ : ∃ n, I.length = n := ⟨_, rfl⟩
    have HN := hide hnn
    rw [hnn] at HC B0 X0 hn hfe ⊢
    have FE := hide hfe
    clear hnn hfe
    go_enter Tryz.func12, Tryz.ntmps12
    go_wp2_with fail
    refine (unhide HC _).mono ?_
    rintro e w1 ⟨rfl, hb1⟩
    have B1 := hide ((unhide B0).trans (hb1.mono (unhide B0).size)); have X1 := hide ((unhide X0).all hb1)
    clear HC B0 X0 hb1
    have x2 := (unhide X1).c2
    go_wp2_with fail
    go_loopw [13] (fun i wr => ∃ k : Nat, k ≤ n ∧ i = .int .i64 k ∧ Hid (Below w1.heap.size w1 wr) ∧ Hid (fnK I k = true)) (fun i _ => n - (intOf i).toNat)
    case atStart => exact ⟨0, Nat.zero_le _, rfl, Below.refl _ _, rfl⟩
    case round =>
      clear x2
      obtain ⟨k, hk, rfl, hB, hF⟩ := hrel
      have x2 := ((unhide X1).all (unhide hB)).c2
      by_cases hlt : k < n
      · have hkI : (k : Int) < (n : Int) := by omega
        have BW := hide ((unhide B1).trans ((unhide hB).mono (unhide B1).size))
        obtain ⟨b, off, hao, hb, hc⟩ := ((unhide HI).below (unhide BW)).ne (by rw [unhide HN]; omega)
        have hck := hc k (by rw [unhide HN]; exact hlt)
        have x64 := (unhide HI).lt k
        have CF := hide (fun w' => sfinite_any (atB I k) w' x64)
        have NX := hide (show fnK I (k + 1) = (fnK I k && fFin (atB I k)) from rfl)
        subst hao
        clear hc x64 hb
        cases hf : fFin (atB I k)
        · rw [hf] at CF NX
          have e : fnK I n = false := by
            cases h : fnK I n
            · rfl
            · have := fnK_down I n (k + 1) (by omega) h
              rw [unhide NX, Bool.and_false] at this
              cases this
          have E4 := hide (show (4 : Int) = fe from by rw [← unhide FE, if_neg (by rw [e]; decide)])
          clear e NX hf
          generalize atB I k = x at *
          go_wp2_with fail
          refine (unhide CF _).mono ?_
          rintro e w3 ⟨rfl, hb3⟩
          have BE := hide ((unhide BW).trans (hb3.mono (unhide BW).size))
          clear CF hb3 hck x2
          go_wp2
          go_ret
          exact ⟨ret_int (unhide E4), unhide BE⟩
        · rw [hf] at CF NX
          rw [unhide hF, Bool.true_and] at NX
          clear hf
          generalize atB I k = x at *
          go_wp2_with fail
          refine (unhide CF _).mono ?_
          rintro e w3 ⟨rfl, hb3⟩
          have BE := hide ((unhide hB).trans (hb3.mono (unhide hB).size))
          clear CF hb3 hck x2
          go_wp2
          go_round
          case rel => exact ⟨k + 1, by omega, by go_num, BE, NX⟩
          case measure => simp [intOf]; omega
      · have hkk : k = n := by omega
        subst hkk
        have E0 := hide (show (0 : Int) = fe from by rw [← unhide FE, if_pos (unhide hF)])
        have BE := hide ((unhide B1).trans ((unhide hB).mono (unhide B1).size))
        go_wp2
        go_ret
        exact ⟨ret_int (unhide E0), unhide BE⟩

/-- The first error of three. -/
def fst3 (e1 e2 e3 f : Int) : Int := if e1 ≠ 0 then e1 else if e2 ≠ 0 then e2 else if e3 ≠ 0 then e3 else f

set_option maxRecDepth 20000 in
set_option maxHeartbeats 8000000 in
theorem checkProduct_of (r c p q s d : Int) (ao bo co : Option Addr) (na nb nc ca cb cc : Nat) (e1 e2 e3 : Int) (w : World) (h1 : e1 = 0 ∨ e1 = 1 ∨ e1 = 4) (h2 : e2 = 0 ∨ e2 = 1 ∨ e2 = 4) (h3 : e3 = 0 ∨ e3 = 1 ∨ e3 = 4)
    (C1 : ∀ w', Below w.heap.size w w' → Calls Tryz.prog 12 #[.agg #[.int .i64 r, .int .i64 c, .slice ao na ca]] w' fun e w'' => e = .returned (.int .i64 e1) ∧ Below w'.heap.size w' w'')
    (C2 : ∀ w', Below w.heap.size w w' → Calls Tryz.prog 12 #[.agg #[.int .i64 p, .int .i64 q, .slice bo nb cb]] w' fun e w'' => e = .returned (.int .i64 e2) ∧ Below w'.heap.size w' w'')
    (C3 : ∀ w', Below w.heap.size w w' → Calls Tryz.prog 12 #[.agg #[.int .i64 s, .int .i64 d, .slice co nc cc]] w' fun e w'' => e = .returned (.int .i64 e3) ∧ Below w'.heap.size w' w'') :
    Calls Tryz.prog 52 #[.agg #[.int .i64 r, .int .i64 c, .slice ao na ca], .agg #[.int .i64 p, .int .i64 q, .slice bo nb cb], .agg #[.int .i64 s, .int .i64 d, .slice co nc cc]] w fun e w' => e = .returned (.int .i64 (fst3 e1 e2 e3 (if q = s ∧ r = p ∧ c = d then 0 else 3))) ∧ Below w.heap.size w w' := by
  obtain ⟨fe, hfe⟩ : ∃ fe : Int, fst3 e1 e2 e3 (if q = s ∧ r = p ∧ c = d then 0 else 3) = fe := ⟨_, rfl⟩
  rw [hfe]
  have FE := hide hfe
  clear hfe
  have K1 := hide C1; have K2 := hide C2; have K3 := hide C3
  clear C1 C2 C3
  have b0 := below_alloc9 w (.cells #[.int .i64 r, .int .i64 c, .slice ao na ca] 24)
  have s0 := size_alloc9 w (.cells #[.int .i64 r, .int .i64 c, .slice ao na ca] 24)
  have x0 := BoxM.new w (.int .i64 r) (.int .i64 c) (.slice ao na ca)
  have b1 := below_alloc9 (w.alloc (.cells #[.int .i64 r, .int .i64 c, .slice ao na ca] 24)) (.cells #[.int .i64 p, .int .i64 q, .slice bo nb cb] 24)
  have s1 := size_alloc9 (w.alloc (.cells #[.int .i64 r, .int .i64 c, .slice ao na ca] 24)) (.cells #[.int .i64 p, .int .i64 q, .slice bo nb cb] 24)
  have x1 := BoxM.new (w.alloc (.cells #[.int .i64 r, .int .i64 c, .slice ao na ca] 24)) (.int .i64 p) (.int .i64 q) (.slice bo nb cb)
  have b2 := below_alloc9 ((w.alloc (.cells #[.int .i64 r, .int .i64 c, .slice ao na ca] 24)).alloc (.cells #[.int .i64 p, .int .i64 q, .slice bo nb cb] 24)) (.cells #[.int .i64 s, .int .i64 d, .slice co nc cc] 24)
  have x2 := BoxM.new ((w.alloc (.cells #[.int .i64 r, .int .i64 c, .slice ao na ca] 24)).alloc (.cells #[.int .i64 p, .int .i64 q, .slice bo nb cb] 24)) (.int .i64 s) (.int .i64 d) (.slice co nc cc)
  rw [s1, s0] at x2
  rw [s0] at x1
  have ST := hide (show BoxM _ w.heap.size (.int .i64 r) (.int .i64 c) (.slice ao na ca) ∧ BoxM _ (w.heap.size + 1) (.int .i64 p) (.int .i64 q) (.slice bo nb cb) ∧ BoxM _ (w.heap.size + 1 + 1) (.int .i64 s) (.int .i64 d) (.slice co nc cc) ∧ Below w.heap.size w _ from ⟨(x0.all b1).all b2, x1.all b2, x2, (b0.trans (b1.mono b0.size)).trans (b2.mono (Nat.le_trans b0.size b1.size))⟩)
  have y0 := (unhide ST).1.c0; have y1 := (unhide ST).1.c1; have y2 := (unhide ST).1.c2
  have u0 := (unhide ST).2.1.c0; have u1 := (unhide ST).2.1.c1; have u2 := (unhide ST).2.1.c2
  have v0 := (unhide ST).2.2.1.c0; have v1 := (unhide ST).2.2.1.c1; have v2 := (unhide ST).2.2.1.c2
  clear b0 b1 b2 x0 x1 x2 s0 s1
  go_enter Tryz.func52, Tryz.ntmps52
  go_wp2_with fail
  clear y0 y1 y2 u0 u1 u2 v0 v1 v2
  go_loopw [14] (fun i wr => ∃ k : Nat, k ≤ 3 ∧ i = .int .i64 k ∧ Hid ((0 < k → e1 = 0) ∧ (1 < k → e2 = 0) ∧ (2 < k → e3 = 0)) ∧ Hid (BoxM wr w.heap.size (.int .i64 r) (.int .i64 c) (.slice ao na ca) ∧ BoxM wr (w.heap.size + 1) (.int .i64 p) (.int .i64 q) (.slice bo nb cb) ∧ BoxM wr (w.heap.size + 1 + 1) (.int .i64 s) (.int .i64 d) (.slice co nc cc) ∧ Below w.heap.size w wr)) (fun i _ => 3 - (intOf i).toNat)
  case atStart => exact ⟨0, by omega, rfl, ⟨by omega, by omega, by omega⟩, ST⟩
  case round =>
    clear ST
    obtain ⟨k, hk, rfl, hE, hS⟩ := hrel
    rcases (show k = 0 ∨ k = 1 ∨ k = 2 ∨ k = 3 by omega) with rfl | rfl | rfl | rfl
    · have Z := hide trivial
      have ix : ∀ w' : World, (Instr.index 118 (.agg #[.int .i64 r, .int .i64 c, .slice ao na ca, .int .i64 p, .int .i64 q, .slice bo nb cb, .int .i64 s, .int .i64 d, .slice co nc cc]) (.int .i64 0)).run Tryz.prog w' = .ok (.agg #[.int .i64 r, .int .i64 c, .slice ao na ca]) w' := fun _ => by kernel_rfl
      have BA := hide ((unhide hS).2.2.2.alloc (unhide hS).2.2.2.size (.cells #[.int .i64 r, .int .i64 c, .slice ao na ca] 24))
      have S2 := hide (fun w2 (hb2 : Below (wr.alloc (.cells #[.int .i64 r, .int .i64 c, .slice ao na ca] 24)).heap.size (wr.alloc (.cells #[.int .i64 r, .int .i64 c, .slice ao na ca] 24)) w2) => (show BoxM w2 w.heap.size (.int .i64 r) (.int .i64 c) (.slice ao na ca) ∧ BoxM w2 (w.heap.size + 1) (.int .i64 p) (.int .i64 q) (.slice bo nb cb) ∧ BoxM w2 (w.heap.size + 1 + 1) (.int .i64 s) (.int .i64 d) (.slice co nc cc) ∧ Below w.heap.size w w2 from
        have ba := (below_alloc9 wr (.cells #[.int .i64 r, .int .i64 c, .slice ao na ca] 24)).trans (hb2.mono (below_alloc9 wr (.cells #[.int .i64 r, .int .i64 c, .slice ao na ca] 24)).size)
        ⟨(unhide hS).1.all ba, (unhide hS).2.1.all ba, (unhide hS).2.2.1.all ba, (unhide hS).2.2.2.trans (ba.mono (unhide hS).2.2.2.size)⟩))
      have FK := hide (show (e1 = 0 ∨ e1 = fe) ∧ (e1 ≠ 0 → e1 = fe) from by
        rw [← unhide FE]
        by_cases h : e1 = 0
        · exact ⟨.inl h, fun g => absurd h g⟩
        · have : fst3 e1 e2 e3 (if q = s ∧ r = p ∧ c = d then 0 else 3) = e1 := by unfold fst3; simp [h]
          exact ⟨.inr this.symm, fun _ => this.symm⟩)
      clear Z
      rcases h1 with rfl | rfl | rfl
      · go_wp2_with fail
        refine (unhide K1 _ (unhide BA)).mono ?_
        rintro e w2 ⟨rfl, hb2⟩
        replace S2 := hide (unhide S2 w2 hb2)
        clear hb2 BA hS ix
        go_wp2_with fail
        go_round
        case rel => exact ⟨1, by omega, by go_num, hide ⟨by first | exact fun _ => rfl | exact fun _ => trivial, by omega, by omega⟩, S2⟩
        case measure => simp [intOf]
      all_goals
        have EF := hide ((unhide FK).2 (by decide))
        clear FK
        go_wp2_with fail
        refine (unhide K1 _ (unhide BA)).mono ?_
        rintro e w2 ⟨rfl, hb2⟩
        replace S2 := hide (unhide S2 w2 hb2).2.2.2
        clear hb2 BA hS ix
        go_wp2_with fail
        go_ret
        exact ⟨ret_int (unhide EF), unhide S2⟩
    · have Z := hide (show True ∧ e1 = 0 from ⟨trivial, (unhide hE).1 (by omega)⟩)
      have ix : ∀ w' : World, (Instr.index 118 (.agg #[.int .i64 r, .int .i64 c, .slice ao na ca, .int .i64 p, .int .i64 q, .slice bo nb cb, .int .i64 s, .int .i64 d, .slice co nc cc]) (.int .i64 1)).run Tryz.prog w' = .ok (.agg #[.int .i64 p, .int .i64 q, .slice bo nb cb]) w' := fun _ => by kernel_rfl
      have BA := hide ((unhide hS).2.2.2.alloc (unhide hS).2.2.2.size (.cells #[.int .i64 p, .int .i64 q, .slice bo nb cb] 24))
      have S2 := hide (fun w2 (hb2 : Below (wr.alloc (.cells #[.int .i64 p, .int .i64 q, .slice bo nb cb] 24)).heap.size (wr.alloc (.cells #[.int .i64 p, .int .i64 q, .slice bo nb cb] 24)) w2) => (show BoxM w2 w.heap.size (.int .i64 r) (.int .i64 c) (.slice ao na ca) ∧ BoxM w2 (w.heap.size + 1) (.int .i64 p) (.int .i64 q) (.slice bo nb cb) ∧ BoxM w2 (w.heap.size + 1 + 1) (.int .i64 s) (.int .i64 d) (.slice co nc cc) ∧ Below w.heap.size w w2 from
        have ba := (below_alloc9 wr (.cells #[.int .i64 p, .int .i64 q, .slice bo nb cb] 24)).trans (hb2.mono (below_alloc9 wr (.cells #[.int .i64 p, .int .i64 q, .slice bo nb cb] 24)).size)
        ⟨(unhide hS).1.all ba, (unhide hS).2.1.all ba, (unhide hS).2.2.1.all ba, (unhide hS).2.2.2.trans (ba.mono (unhide hS).2.2.2.size)⟩))
      have FK := hide (show (e2 = 0 ∨ e2 = fe) ∧ (e2 ≠ 0 → e2 = fe) from by
        obtain ⟨_, e10⟩ := unhide Z
        rw [← unhide FE]
        by_cases h : e2 = 0
        · exact ⟨.inl h, fun g => absurd h g⟩
        · have : fst3 e1 e2 e3 (if q = s ∧ r = p ∧ c = d then 0 else 3) = e2 := by unfold fst3; simp [h, e10]
          exact ⟨.inr this.symm, fun _ => this.symm⟩)
      clear Z
      rcases h2 with rfl | rfl | rfl
      · go_wp2_with fail
        refine (unhide K2 _ (unhide BA)).mono ?_
        rintro e w2 ⟨rfl, hb2⟩
        replace S2 := hide (unhide S2 w2 hb2)
        clear hb2 BA hS ix
        go_wp2_with fail
        go_round
        case rel => exact ⟨2, by omega, by go_num, hide ⟨by exact (unhide hE).1 ∘ (fun _ => by omega), by first | exact fun _ => rfl | exact fun _ => trivial, by omega⟩, S2⟩
        case measure => simp [intOf]
      all_goals
        have EF := hide ((unhide FK).2 (by decide))
        clear FK
        go_wp2_with fail
        refine (unhide K2 _ (unhide BA)).mono ?_
        rintro e w2 ⟨rfl, hb2⟩
        replace S2 := hide (unhide S2 w2 hb2).2.2.2
        clear hb2 BA hS ix
        go_wp2_with fail
        go_ret
        exact ⟨ret_int (unhide EF), unhide S2⟩
    · have Z := hide (show True ∧ e1 = 0 ∧ e2 = 0 from ⟨trivial, (unhide hE).1 (by omega), (unhide hE).2.1 (by omega)⟩)
      have ix : ∀ w' : World, (Instr.index 118 (.agg #[.int .i64 r, .int .i64 c, .slice ao na ca, .int .i64 p, .int .i64 q, .slice bo nb cb, .int .i64 s, .int .i64 d, .slice co nc cc]) (.int .i64 2)).run Tryz.prog w' = .ok (.agg #[.int .i64 s, .int .i64 d, .slice co nc cc]) w' := fun _ => by kernel_rfl
      have BA := hide ((unhide hS).2.2.2.alloc (unhide hS).2.2.2.size (.cells #[.int .i64 s, .int .i64 d, .slice co nc cc] 24))
      have S2 := hide (fun w2 (hb2 : Below (wr.alloc (.cells #[.int .i64 s, .int .i64 d, .slice co nc cc] 24)).heap.size (wr.alloc (.cells #[.int .i64 s, .int .i64 d, .slice co nc cc] 24)) w2) => (show BoxM w2 w.heap.size (.int .i64 r) (.int .i64 c) (.slice ao na ca) ∧ BoxM w2 (w.heap.size + 1) (.int .i64 p) (.int .i64 q) (.slice bo nb cb) ∧ BoxM w2 (w.heap.size + 1 + 1) (.int .i64 s) (.int .i64 d) (.slice co nc cc) ∧ Below w.heap.size w w2 from
        have ba := (below_alloc9 wr (.cells #[.int .i64 s, .int .i64 d, .slice co nc cc] 24)).trans (hb2.mono (below_alloc9 wr (.cells #[.int .i64 s, .int .i64 d, .slice co nc cc] 24)).size)
        ⟨(unhide hS).1.all ba, (unhide hS).2.1.all ba, (unhide hS).2.2.1.all ba, (unhide hS).2.2.2.trans (ba.mono (unhide hS).2.2.2.size)⟩))
      have FK := hide (show (e3 = 0 ∨ e3 = fe) ∧ (e3 ≠ 0 → e3 = fe) from by
        obtain ⟨_, e10, e20⟩ := unhide Z
        rw [← unhide FE]
        by_cases h : e3 = 0
        · exact ⟨.inl h, fun g => absurd h g⟩
        · have : fst3 e1 e2 e3 (if q = s ∧ r = p ∧ c = d then 0 else 3) = e3 := by unfold fst3; simp [h, e10, e20]
          exact ⟨.inr this.symm, fun _ => this.symm⟩)
      clear Z
      rcases h3 with rfl | rfl | rfl
      · go_wp2_with fail
        refine (unhide K3 _ (unhide BA)).mono ?_
        rintro e w2 ⟨rfl, hb2⟩
        replace S2 := hide (unhide S2 w2 hb2)
        clear hb2 BA hS ix
        go_wp2_with fail
        go_round
        case rel => exact ⟨3, by omega, by go_num, hide ⟨by exact (unhide hE).1 ∘ (fun _ => by omega), by exact (unhide hE).2.1 ∘ (fun _ => by omega), by first | exact fun _ => rfl | exact fun _ => trivial⟩, S2⟩
        case measure => simp [intOf]
      all_goals
        have EF := hide ((unhide FK).2 (by decide))
        clear FK
        go_wp2_with fail
        refine (unhide K3 _ (unhide BA)).mono ?_
        rintro e w2 ⟨rfl, hb2⟩
        replace S2 := hide (unhide S2 w2 hb2).2.2.2
        clear hb2 BA hS ix
        go_wp2_with fail
        go_ret
        exact ⟨ret_int (unhide EF), unhide S2⟩
    · obtain ⟨z1, z2, z3⟩ := unhide hE
      have EF : (if q = s ∧ r = p ∧ c = d then (0 : Int) else 3) = fe := by
        rw [← unhide FE]; unfold fst3; simp [z1 (by omega), z2 (by omega), z3 (by omega)]
      have y0 := (unhide hS).1.c0; have y1 := (unhide hS).1.c1
      have u0 := (unhide hS).2.1.c0; have u1 := (unhide hS).2.1.c1
      have v0 := (unhide hS).2.2.1.c0; have v1 := (unhide hS).2.2.1.c1
      have BE := hide (unhide hS).2.2.2
      clear hS hE z1 z2 z3 FE K1 K2 K3 h1 h2 h3
      by_cases g1 : q = s
      · by_cases g2 : r = p
        · by_cases g3 : c = d
          · rw [if_pos ⟨g1, g2, g3⟩] at EF
            have E0 := hide EF
            subst g1 g2 g3
            clear EF
            go_wp2
            go_ret
            exact ⟨ret_int (unhide E0), unhide BE⟩
          · rw [if_neg (fun h => g3 h.2.2)] at EF
            have E0 := hide EF
            subst g1 g2
            clear EF
            go_wp2
            go_ret
            exact ⟨ret_int (unhide E0), unhide BE⟩
        · rw [if_neg (fun h => g2 h.2.1)] at EF
          have E0 := hide EF
          subst g1
          clear EF
          go_wp2
          go_ret
          exact ⟨ret_int (unhide E0), unhide BE⟩
      · rw [if_neg (fun h => g1 h.1)] at EF
        have E0 := hide EF
        clear EF
        go_wp2
        go_ret
        exact ⟨ret_int (unhide E0), unhide BE⟩

end Go.Proofs.YtfnnbkclnflpfaaGreatDoor

/- Package certify: Square, Residual by letters. -/
namespace Go.Proofs.YtfnnbkclnflpfaaGreatDoor
open Go.RowKit
attribute [local go_sem ↓] Go.wp_at_zero Go.wp_at_succ

/-- One matrix's box and the answer's. -/
theorem boxes1D (w : World) (r c : Int) (ao : Option Addr) (n cap : Nat) : BoxM ((w.alloc (.cells #[.int .i64 r, .int .i64 c, .slice ao n cap] 24)).alloc (.cells #[.bool false, .slice none 0 0, .int .i64 0] 29)) w.heap.size (.int .i64 r) (.int .i64 c) (.slice ao n cap) ∧ Box3 ((w.alloc (.cells #[.int .i64 r, .int .i64 c, .slice ao n cap] 24)).alloc (.cells #[.bool false, .slice none 0 0, .int .i64 0] 29)) (w.heap.size + 1) (.bool false) (.slice none 0 0) (.int .i64 0) ∧ Below w.heap.size w ((w.alloc (.cells #[.int .i64 r, .int .i64 c, .slice ao n cap] 24)).alloc (.cells #[.bool false, .slice none 0 0, .int .i64 0] 29)) := by
  have b0 := below_alloc9 w (.cells #[.int .i64 r, .int .i64 c, .slice ao n cap] 24)
  have s0 := size_alloc9 w (.cells #[.int .i64 r, .int .i64 c, .slice ao n cap] 24)
  have x0 := BoxM.new w (.int .i64 r) (.int .i64 c) (.slice ao n cap)
  generalize w.alloc (.cells #[.int .i64 r, .int .i64 c, .slice ao n cap] 24) = w0 at *
  have b1 := below_alloc9 w0 (.cells #[.bool false, .slice none 0 0, .int .i64 0] 29)
  have x1 := Box3.new w0 (.bool false) (.slice none 0 0) (.int .i64 0)
  rw [s0] at x1
  exact ⟨x0.all b1, x1, b0.trans (b1.mono b0.size)⟩

/-- Three matrices' boxes and the answer's. -/
def Bx3D (w W : World) (r c p q s d : Int) (ao bo co : Option Addr) (na nb nc ca cb cc : Nat) : Prop :=
  BoxM W w.heap.size (.int .i64 r) (.int .i64 c) (.slice ao na ca) ∧ BoxM W (w.heap.size + 1) (.int .i64 p) (.int .i64 q) (.slice bo nb cb) ∧ BoxM W (w.heap.size + 1 + 1) (.int .i64 s) (.int .i64 d) (.slice co nc cc) ∧ Box3 W (w.heap.size + 1 + 1 + 1) (.bool false) (.slice none 0 0) (.int .i64 0) ∧ Below w.heap.size w W
theorem Bx3D.all {w W W' : World} {r c p q s d : Int} {ao bo co : Option Addr} {na nb nc ca cb cc : Nat} (h : Bx3D w W r c p q s d ao bo co na nb nc ca cb cc) (hb : Below W.heap.size W W') : Bx3D w W' r c p q s d ao bo co na nb nc ca cb cc :=
  ⟨h.1.all hb, h.2.1.all hb, h.2.2.1.all hb, h.2.2.2.1.all hb, h.2.2.2.2.trans (hb.mono h.2.2.2.2.size)⟩
theorem Bx3D.start (w : World) (r c p q s d : Int) (ao bo co : Option Addr) (na nb nc ca cb cc : Nat) : Bx3D w ((((w.alloc (.cells #[.int .i64 r, .int .i64 c, .slice ao na ca] 24)).alloc (.cells #[.int .i64 p, .int .i64 q, .slice bo nb cb] 24)).alloc (.cells #[.int .i64 s, .int .i64 d, .slice co nc cc] 24)).alloc (.cells #[.bool false, .slice none 0 0, .int .i64 0] 29)) r c p q s d ao bo co na nb nc ca cb cc := by
  have b0 := below_alloc9 w (.cells #[.int .i64 r, .int .i64 c, .slice ao na ca] 24)
  have s0 := size_alloc9 w (.cells #[.int .i64 r, .int .i64 c, .slice ao na ca] 24)
  have x0 := BoxM.new w (.int .i64 r) (.int .i64 c) (.slice ao na ca)
  generalize w.alloc (.cells #[.int .i64 r, .int .i64 c, .slice ao na ca] 24) = w0 at *
  have b1 := below_alloc9 w0 (.cells #[.int .i64 p, .int .i64 q, .slice bo nb cb] 24)
  have s1 := size_alloc9 w0 (.cells #[.int .i64 p, .int .i64 q, .slice bo nb cb] 24)
  have x1 := BoxM.new w0 (.int .i64 p) (.int .i64 q) (.slice bo nb cb)
  generalize w0.alloc (.cells #[.int .i64 p, .int .i64 q, .slice bo nb cb] 24) = w1 at *
  have b2 := below_alloc9 w1 (.cells #[.int .i64 s, .int .i64 d, .slice co nc cc] 24)
  have s2 := size_alloc9 w1 (.cells #[.int .i64 s, .int .i64 d, .slice co nc cc] 24)
  have x2 := BoxM.new w1 (.int .i64 s) (.int .i64 d) (.slice co nc cc)
  generalize w1.alloc (.cells #[.int .i64 s, .int .i64 d, .slice co nc cc] 24) = w2 at *
  have b3 := below_alloc9 w2 (.cells #[.bool false, .slice none 0 0, .int .i64 0] 29)
  have x3 := Box3.new w2 (.bool false) (.slice none 0 0) (.int .i64 0)
  rw [s2, s1, s0] at x3
  rw [s1, s0] at x2
  rw [s0] at x1
  have bb := (b0.trans (b1.mono b0.size)).trans (b2.mono (Nat.le_trans b0.size b1.size))
  exact ⟨((x0.all b1).all b2).all b3, (x1.all b2).all b3, x2.all b3, x3, bb.trans (b3.mono bb.size)⟩

end Go.Proofs.YtfnnbkclnflpfaaGreatDoor

/- Package certify: Residual by letters. -/
namespace Go.Proofs.YtfnnbkclnflpfaaGreatDoor
open Go.RowKit
attribute [local go_sem ↓] Go.wp_at_zero Go.wp_at_succ

set_option maxRecDepth 20000 in
set_option maxHeartbeats 16000000 in
theorem cRes_of (r n c na nb nc ca cb cc : Nat) (ao bo co : Option Addr) (lo lo1 lo2 z : Int) (FA FB FC FT FL : Nat → Nat → Int) (w : World)
    (C0 : ∀ w', Below w.heap.size w w' → Calls Tryz.prog 52 #[.agg #[.int .i64 r, .int .i64 c, .slice ao na ca], .agg #[.int .i64 r, .int .i64 n, .slice bo nb cb], .agg #[.int .i64 n, .int .i64 c, .slice co nc cc]] w' fun e w'' => e = .returned (.int .i64 0) ∧ Below w'.heap.size w' w'')
    (C1 : ∀ w', Below w.heap.size w w' → Calls Tryz.prog 34 #[.agg #[.int .i64 r, .int .i64 c, .slice ao na ca]] w' fun e w'' => ∃ go q, e = .returned (.agg #[.int .i64 r, .int .i64 c, .slice go (r * c) q]) ∧ Gr w'' go q r c lo FA ∧ Below w'.heap.size w' w'')
    (C2 : ∀ w', Below w.heap.size w w' → Calls Tryz.prog 34 #[.agg #[.int .i64 r, .int .i64 n, .slice bo nb cb]] w' fun e w'' => ∃ go q, e = .returned (.agg #[.int .i64 r, .int .i64 n, .slice go (r * n) q]) ∧ Gr w'' go q r n lo FB ∧ Below w'.heap.size w' w'')
    (C3 : ∀ w', Below w.heap.size w w' → Calls Tryz.prog 34 #[.agg #[.int .i64 n, .int .i64 c, .slice co nc cc]] w' fun e w'' => ∃ go q, e = .returned (.agg #[.int .i64 n, .int .i64 c, .slice go (n * c) q]) ∧ Gr w'' go q n c lo FC ∧ Below w'.heap.size w' w'')
    (C4 : ∀ w' xo xd yo yd, Below w.heap.size w w' → Gr w' xo xd r n lo FB → Gr w' yo yd n c lo FC → Calls Tryz.prog 37 #[.agg #[.int .i64 r, .int .i64 n, .slice xo (r * n) xd], .agg #[.int .i64 n, .int .i64 c, .slice yo (n * c) yd]] w' fun e w'' => ∃ go q, e = .returned (.agg #[.int .i64 r, .int .i64 c, .slice go (r * c) q]) ∧ Gr w'' go q r c lo1 FT ∧ Below w'.heap.size w' w'')
    (C5 : ∀ w' xo xd yo yd, Below w.heap.size w w' → Gr w' xo xd r c lo FA → Gr w' yo yd r c lo1 FT → Calls Tryz.prog 36 #[.agg #[.int .i64 r, .int .i64 c, .slice xo (r * c) xd], .agg #[.int .i64 r, .int .i64 c, .slice yo (r * c) yd]] w' fun e w'' => ∃ go q, e = .returned (.agg #[.int .i64 r, .int .i64 c, .slice go (r * c) q]) ∧ Gr w'' go q r c lo1 FL ∧ Below w'.heap.size w' w'')
    (C6 : ∀ w' xo xd, Below w.heap.size w w' → Gr w' xo xd r c lo1 FL → Calls Tryz.prog 33 #[.agg #[.int .i64 r, .int .i64 c, .slice xo (r * c) xd]] w' fun e w'' => ∃ v, e = .returned v ∧ IsLv w'' v lo2 z ∧ Below w'.heap.size w' w'') :
    Calls Tryz.prog 17 #[.agg #[.int .i64 r, .int .i64 c, .slice ao na ca], .agg #[.int .i64 r, .int .i64 n, .slice bo nb cb], .agg #[.int .i64 n, .int .i64 c, .slice co nc cc]] w fun e w' => ∃ v, e = .returned (.tuple #[v, .int .i64 0]) ∧ IsLv w' v lo2 z ∧ Below w.heap.size w w' := by
  have K0 := hide C0; have ST := hide (Bx3D.start w r c r n n c ao bo co na nb nc ca cb cc)
  have H1 := hide C1; have H2 := hide C2; have H3 := hide C3; have H4 := hide C4; have H5 := hide C5; have H6 := hide C6
  have y0 := (unhide ST).1.c0; have y1 := (unhide ST).1.c1; have y2 := (unhide ST).1.c2
  have u0 := (unhide ST).2.1.c0; have u1 := (unhide ST).2.1.c1; have u2 := (unhide ST).2.1.c2
  have v0 := (unhide ST).2.2.1.c0; have v1 := (unhide ST).2.2.1.c1; have v2 := (unhide ST).2.2.1.c2
  clear C0 C1 C2 C3 C4 C5 C6
  generalize r * c = rc at *
  generalize r * n = rn at *
  generalize n * c = nn at *
  go_enter Tryz.func17, Tryz.ntmps17
  go_wp2_with fail
  refine (unhide K0 _ (unhide ST).2.2.2.2).mono ?_
  rintro e w1 ⟨rfl, hb1⟩
  replace ST := hide ((unhide ST).all hb1)
  clear y0 y1 y2 u0 u1 u2 v0 v1 v2 K0 hb1
  go_wp2_with fail
  refine at_world (fun W => Bx3D w W r c r n n c ao bo co na nb nc ca cb cc) (unhide ST) ?_
  clear ST
  rintro W0 st
  obtain ⟨x1, x2, x3, x4, b0⟩ := st
  obtain ⟨g1, e1⟩ : ∃ g1, g1 = w.heap.size + 1 := ⟨_, rfl⟩
  obtain ⟨g2, e2⟩ : ∃ g2, g2 = w.heap.size + 1 + 1 := ⟨_, rfl⟩
  obtain ⟨g3, e3⟩ : ∃ g3, g3 = w.heap.size + 1 + 1 + 1 := ⟨_, rfl⟩
  rw [← e3] at x4 ⊢
  rw [← e2] at x3 ⊢
  rw [← e1] at x2 ⊢
  have l0 := hide (show w.heap.size < g3 by omega); have l1 := hide (show g1 < g3 by omega); have l2 := hide (show g2 < g3 by omega)
  clear e1 e2 e3
  have HK := hide (fun w' (h : Below g3 W0 w') => (show Below g3 W0 w' ∧ w'.cell? ⟨w.heap.size, 0, none⟩ = some (.int .i64 r) ∧ w'.cell? ⟨w.heap.size, 1, none⟩ = some (.int .i64 c) ∧ w'.cell? ⟨w.heap.size, 2, none⟩ = some (.slice ao na ca) ∧ w'.cell? ⟨g1, 0, none⟩ = some (.int .i64 r) ∧ w'.cell? ⟨g1, 1, none⟩ = some (.int .i64 n) ∧ w'.cell? ⟨g1, 2, none⟩ = some (.slice bo nb cb) ∧ w'.cell? ⟨g2, 0, none⟩ = some (.int .i64 n) ∧ w'.cell? ⟨g2, 1, none⟩ = some (.int .i64 c) ∧ w'.cell? ⟨g2, 2, none⟩ = some (.slice co nc cc) from
    ⟨h, (x1.below h (unhide l0)).c0, (x1.below h (unhide l0)).c1, (x1.below h (unhide l0)).c2, (x2.below h (unhide l1)).c0, (x2.below h (unhide l1)).c1, (x2.below h (unhide l1)).c2, (x3.below h (unhide l2)).c0, (x3.below h (unhide l2)).c1, (x3.below h (unhide l2)).c2⟩))
  have HKS := hide (fun wn u u' u'' (h1 : Below g3 W0 wn) => unhide HK (((wn.setCell ⟨g3, 0, none⟩ u).setCell ⟨g3, 1, none⟩ u').setCell ⟨g3, 2, none⟩ u'') (below_put3 h1 (Nat.le_refl _) u u' u''))
  have BW := hide (fun w' (h : Below g3 W0 w') => b0.trans (h.mono (Nat.le_of_lt (unhide l0))))
  have HG := hide (Nat.le_of_lt x4.lt)
  have X4 := hide x4.drew
  clear x1 x2 x3 x4 b0
  go_region_held3 (fun w' => Below g3 W0 w' ∧ w'.cell? ⟨w.heap.size, 0, none⟩ = some (.int .i64 r) ∧ w'.cell? ⟨w.heap.size, 1, none⟩ = some (.int .i64 c) ∧ w'.cell? ⟨w.heap.size, 2, none⟩ = some (.slice ao na ca) ∧ w'.cell? ⟨g1, 0, none⟩ = some (.int .i64 r) ∧ w'.cell? ⟨g1, 1, none⟩ = some (.int .i64 n) ∧ w'.cell? ⟨g1, 2, none⟩ = some (.slice bo nb cb) ∧ w'.cell? ⟨g2, 0, none⟩ = some (.int .i64 n) ∧ w'.cell? ⟨g2, 1, none⟩ = some (.int .i64 c) ∧ w'.cell? ⟨g2, 2, none⟩ = some (.slice co nc cc))
    (first | exact unhide HK _ (Below.refl _ _).drew | exact unhide HK _ (by assumption) | exact unhide HKS _ _ _ _ hB8 | fail "KK")
    (first
      | (go_at_call_of 34 ao; refine (unhide H1 _ (unhide BW _ (And.left (by assumption)))).mono ?_; rintro e w9 ⟨o1, d1, rfl, qn, hb1⟩; have hB9 : Below g3 W0 w9 := Below.trans (And.left (by assumption)) (hb1.mono (Nat.le_trans (unhide HG) (Below.size (And.left (by assumption))))); (first | (replace QB := hide ((unhide QB).below hb1)) | skip); (first | (replace QC := hide ((unhide QC).below hb1)) | skip); (first | (replace QT := hide ((unhide QT).below hb1)) | skip); (first | (replace QL := hide ((unhide QL).below hb1)) | skip); replace X4 := hide ((unhide X4).all hb1); have QA := hide qn; clear qn hb1)
      | (go_at_call_of 34 bo; refine (unhide H2 _ (unhide BW _ (And.left (by assumption)))).mono ?_; rintro e w9 ⟨o2, d2, rfl, qn, hb1⟩; have hB9 : Below g3 W0 w9 := Below.trans (And.left (by assumption)) (hb1.mono (Nat.le_trans (unhide HG) (Below.size (And.left (by assumption))))); (first | (replace QA := hide ((unhide QA).below hb1)) | skip); (first | (replace QC := hide ((unhide QC).below hb1)) | skip); (first | (replace QT := hide ((unhide QT).below hb1)) | skip); (first | (replace QL := hide ((unhide QL).below hb1)) | skip); replace X4 := hide ((unhide X4).all hb1); have QB := hide qn; clear qn hb1)
      | (go_at_call_of 34 co; refine (unhide H3 _ (unhide BW _ (And.left (by assumption)))).mono ?_; rintro e w9 ⟨o3, d3, rfl, qn, hb1⟩; have hB9 : Below g3 W0 w9 := Below.trans (And.left (by assumption)) (hb1.mono (Nat.le_trans (unhide HG) (Below.size (And.left (by assumption))))); (first | (replace QA := hide ((unhide QA).below hb1)) | skip); (first | (replace QB := hide ((unhide QB).below hb1)) | skip); (first | (replace QT := hide ((unhide QT).below hb1)) | skip); (first | (replace QL := hide ((unhide QL).below hb1)) | skip); replace X4 := hide ((unhide X4).all hb1); have QC := hide qn; clear qn hb1)
      | (go_at_call 37; refine (unhide H4 _ _ _ _ _ (unhide BW _ (And.left (by assumption))) (unhide QB) (unhide QC)).mono ?_; rintro e w9 ⟨o4, d4, rfl, qn, hb1⟩; have hB9 : Below g3 W0 w9 := Below.trans (And.left (by assumption)) (hb1.mono (Nat.le_trans (unhide HG) (Below.size (And.left (by assumption))))); (first | (replace QA := hide ((unhide QA).below hb1)) | skip); (first | (replace QB := hide ((unhide QB).below hb1)) | skip); (first | (replace QC := hide ((unhide QC).below hb1)) | skip); (first | (replace QL := hide ((unhide QL).below hb1)) | skip); replace X4 := hide ((unhide X4).all hb1); have QT := hide qn; clear qn hb1)
      | (go_at_call 36; refine (unhide H5 _ _ _ _ _ (unhide BW _ (And.left (by assumption))) (unhide QA) (unhide QT)).mono ?_; rintro e w9 ⟨o5, d5, rfl, qn, hb1⟩; have hB9 : Below g3 W0 w9 := Below.trans (And.left (by assumption)) (hb1.mono (Nat.le_trans (unhide HG) (Below.size (And.left (by assumption))))); (first | (replace QA := hide ((unhide QA).below hb1)) | skip); (first | (replace QB := hide ((unhide QB).below hb1)) | skip); (first | (replace QC := hide ((unhide QC).below hb1)) | skip); (first | (replace QT := hide ((unhide QT).below hb1)) | skip); replace X4 := hide ((unhide X4).all hb1); have QL := hide qn; clear qn hb1)
      | (go_at_call 33; refine (unhide H6 _ _ _ (unhide BW _ (And.left (by assumption))) (unhide QL)).mono ?_; rintro e w8 ⟨v, rfl, ⟨n5, a5, c5, L5, rfl, i5⟩, hb1⟩; have hB8 : Below g3 W0 w8 := Below.trans (And.left (by assumption)) (hb1.mono (Nat.le_trans (unhide HG) (Below.size (And.left (by assumption))))); replace X4 := hide ((unhide X4).all hb1); have IP := hide (show IsLv w8 (.agg #[.bool n5, .slice a5 L5.length c5, .int .i64 (oE z lo2)]) lo2 z from ⟨n5, a5, c5, L5, rfl, i5⟩); have y0 := (unhide X4).c0; have y1 := (unhide X4).c1; have y2 := (unhide X4).c2; have f0 := (unhide X4).free 0; have f1 := (unhide X4).free 1; have f2 := (unhide X4).free 2; clear i5 hb1)
      | fail "NO ARM")
  all_goals
    have xp := (unhide X4).put (.bool n5) (.slice a5 L5.length c5) (.int .i64 (oE z lo2))
    have z0 := xp.c0; have z1 := xp.c1; have z2 := xp.c2
    have QP := hide (IsDy.put3 (unhide IP) (unhide X4) (.bool n5) (.slice a5 L5.length c5) (.int .i64 (oE z lo2)))
    have PB := hide (below_put3 (unhide BW _ hB8) (Nat.le_of_lt (unhide l0)) (.bool n5) (.slice a5 L5.length c5) (.int .i64 (oE z lo2)))
    clear xp y0 y1 y2 f0 f1 f2
    go_wp2
    exact bodyPost_ret (v := .tuple #[.agg #[.bool n5, .slice a5 L5.length c5, .int .i64 (oE z lo2)], .int .i64 0]) (by simp [results, Tryz.results17, go_sem, z0, z1, z2]) rfl ⟨_, rfl, unhide QP, unhide PB⟩

end Go.Proofs.YtfnnbkclnflpfaaGreatDoor

/- Package certify: Orthogonal by letters. -/
namespace Go.Proofs.YtfnnbkclnflpfaaGreatDoor
open Go.RowKit
attribute [local go_sem ↓] Go.wp_at_zero Go.wp_at_succ

theorem BoxT.oth3 {T : Nat} {w : World} {b : Nat} {x y z : Value} (h : BoxT T w b x y z) {g : Nat} (hg : b ≠ g) (u u' u'' : Value) : BoxT T (((w.setCell ⟨g, 0, none⟩ u).setCell ⟨g, 1, none⟩ u').setCell ⟨g, 2, none⟩ u'') b x y z :=
  ((h.other (p := ⟨g, 0, none⟩) hg u).other (p := ⟨g, 1, none⟩) hg u').other (p := ⟨g, 2, none⟩) hg u''
theorem BoxM.oth3 {w : World} {b : Nat} {x y z : Value} (h : BoxM w b x y z) {g : Nat} (hg : b ≠ g) (u u' u'' : Value) : BoxM (((w.setCell ⟨g, 0, none⟩ u).setCell ⟨g, 1, none⟩ u').setCell ⟨g, 2, none⟩ u'') b x y z :=
  ((h.other (p := ⟨g, 0, none⟩) hg u).other (p := ⟨g, 1, none⟩) hg u').other (p := ⟨g, 2, none⟩) hg u''

end Go.Proofs.YtfnnbkclnflpfaaGreatDoor

/- Package certify: Square, Residual, Orthogonal, Gradient of matrices of finite numbers. -/
namespace Go.Proofs.YtfnnbkclnflpfaaGreatDoor
open Go.RowKit

theorem fZ_lvl (b : Nat) (hf : fFin b = true) : Lvl (-1074) 2098 (fZ b) := ⟨fZ_lt b hf, by decide, by decide, by decide⟩
theorem up_lvl (b : Nat) (hf : fFin b = true) : Lvl (-2148) 4200 (fZ b * 2 ^ 1074) := ⟨up_ltV (j := 2098) (k := 1074) (V := 4200) (by decide) (fZ_lt b hf), by decide, by decide, by decide⟩
theorem dt_lvl (n : Nat) (hn : n ≤ 8) (x y : Nat → Nat) (hx : ∀ j, j < n → fFin (x j) = true) (hy : ∀ j, j < n → fFin (y j) = true) : Lvl (-2148) 4200 (smI (fun j => fZ (x j) * fZ (y j)) n) :=
  (dtZ_lvl n hn x y hx hy).more (by decide) (by decide) (by decide)
theorem pr_lvl (a b : Nat) (ha : fFin a = true) (hb : fFin b = true) : Lvl (-2148) 4200 (fZ a * fZ b) :=
  (show Lvl (-2148) 4196 (fZ a * fZ b) from ⟨mul_ltV (j := 2098) (k := 2098) (V := 4196) (by decide) (fZ_lt a ha) (fZ_lt b hb), by decide, by decide, by decide⟩).more (by decide) (by decide) (by decide)

/-- What Check says of such a matrix. -/
theorem ckE_ok {w : World} {ao : Option Addr} {cap r c : Nat} {S : List Nat} (h : Mx w ao cap r c S) (hf : ∀ x ∈ S, fFin x = true) : ckE (r : Int) (c : Int) (mxL S) = 0 := by
  unfold ckE
  rw [mxL_len, if_pos (mx_ok h), if_pos]
  have : ∀ k, k ≤ S.length → fnK (mxL S) k = true := by
    intro k
    induction k with
    | zero => intro _; rfl
    | succ k ih =>
      intro hk
      show (fnK (mxL S) k && fFin (atB (mxL S) k)) = true
      rw [ih (by omega), mxL_at, Bool.true_and, List.getD_eq_getElem?_getD, List.getElem?_eq_getElem (by omega)]
      exact hf _ (List.getElem_mem _)
  exact this _ (Nat.le_refl _)

theorem ccheck_ok (r c cap : Nat) (ao : Option Addr) (S : List Nat) (w : World) (h : Mx w ao cap r c S) (hf : ∀ x ∈ S, fFin x = true) :
    Calls Tryz.prog 12 #[.agg #[.int .i64 r, .int .i64 c, .slice ao S.length cap]] w fun e w' => e = .returned (.int .i64 0) ∧ Below w.heap.size w w' := by
  have := ccheck_any r c ao cap (mxL S) w h.1 (by rw [mxL_len]; have := h.small; omega)
  rwa [ckE_ok h hf, mxL_len] at this

/-- Sums over a grid's places. -/
theorem grid_sum (G : Nat → Nat → Int) (r c : Nat) : smI (fun p => G (p / c) (p % c)) (r * c) = smI (fun i => smI (fun k => G i k) c) r := by
  rw [smI_grid]
  refine smI_congr _ (fun i _ => smI_congr _ (fun k hk => ?_))
  rw [place_div hk, place_mod hk]

theorem cRes_any (r n c ca cb cc : Nat) (ao bo co : Option Addr) (A B C : List Nat) (w : World) (hA : Mx w ao ca r c A) (hB : Mx w bo cb r n B) (hC : Mx w co cc n c C) (fA : ∀ x ∈ A, fFin x = true) (fB : ∀ x ∈ B, fFin x = true) (fC : ∀ x ∈ C, fFin x = true) (hT : Tab w) :
    Calls Tryz.prog 17 #[.agg #[.int .i64 r, .int .i64 c, .slice ao A.length ca], .agg #[.int .i64 r, .int .i64 n, .slice bo B.length cb], .agg #[.int .i64 n, .int .i64 c, .slice co C.length cc]] w fun e w' => ∃ v, e = .returned (.tuple #[v, .int .i64 0]) ∧ IsLv w' v (-4296) (rsQ r n c A B C) ∧ Below w.heap.size w w' := by
  have n6 := hC.2.2.1
  refine cRes_of r n c _ _ _ ca cb cc ao bo co (-1074) (-2148) (-4296) (rsQ r n c A B C) (fun i k => fZ (elM c A i k)) (fun i k => fZ (elM n B i k)) (fun i k => fZ (elM c C i k)) (fun i k => smI (fun j => fZ (elM n B i j) * fZ (elM c C j k)) n) (fun i k => rsZ n c A B C i k) w
    (fun w' hb => ?_) (fun w' hb => values_any r c ca ao A w' (hA.below hb) fA (hT.all hb)) (fun w' hb => values_any r n cb bo B w' (hB.below hb) fB (hT.all hb)) (fun w' hb => values_any n c cc co C w' (hC.below hb) fC (hT.all hb)) (fun w' xo xd yo yd hb hx hy => ?_) (fun w' xo xd yo yd hb hx hy => ?_) (fun w' xo xd hb hx => ?_)
  · have := checkProduct_of r c r n n c ao bo co A.length B.length C.length ca cb cc 0 0 0 w' (.inl rfl) (.inl rfl) (.inl rfl) (fun w'' hb2 => ccheck_ok r c ca ao A w'' ((hA.below hb).below hb2) fA) (fun w'' hb2 => ccheck_ok r n cb bo B w'' ((hB.below hb).below hb2) fB) (fun w'' hb2 => ccheck_ok n c cc co C w'' ((hC.below hb).below hb2) fC)
    simpa [fst3] using this
  · exact gtimes_any r n c xd yd xo yo (-1074) (-1074) (-2148) 2098 2098 4200 _ _ w' (by decide) hx hy (fun i k _ _ => fZ_lvl _ (el_fin n B i k fB)) (fun i k _ _ => fZ_lvl _ (el_fin c C i k fC)) (fun i j k _ _ _ => pr_lvl _ _ (el_fin n B i j fB) (el_fin c C j k fC)) (fun i k j _ _ hj => dt_lvl j (by omega) _ _ (fun l _ => el_fin n B i l fB) (fun l _ => el_fin c C l k fC)) (hT.all hb)
  · have hx' := hx.lower 1074
    rw [show (-1074 : Int) - (1074 : Nat) = -2148 by decide] at hx'
    exact less_any11 r c xd yd xo yo (-2148) 4200 _ _ w' hx' hy (fun i k _ _ => up_lvl _ (el_fin c A i k fA)) (fun i k _ _ => dt_lvl n (by omega) _ _ (fun l _ => el_fin n B i l fB) (fun l _ => el_fin c C l k fC)) (fun i k _ _ => ⟨rsZ_lt n c A B C i k (by omega) fA fB fC, by decide, by decide, by decide⟩) (hT.all hb)
  · have C1 := square_any r c (r * c) xd xo (-2148) 4200 (fun p => rsZ n c A B C (p / c) (p % c)) w' hx.1 (Nat.mul_le_mul hx.2.1 hx.2.2) (fun k _ => ⟨rsZ_lt n c A B C _ _ (by omega) fA fB fC, by decide, by decide, by decide⟩) (by decide) (by decide) (by decide) (hT.all hb)
    rw [grid_sum (fun i k => rsZ n c A B C i k * rsZ n c A B C i k) r c] at C1
    exact C1

end Go.Proofs.YtfnnbkclnflpfaaGreatDoor

