/- Part 10 of the texts. -/
import Derived.Test.YtfnnbkclnflpfaaGreatDoorPartR09
import Derived.Deep.RegionLaw
import Derived.Test.YtfnnbkclnflpfaaGreatDoorPartR07
import Derived.Test.YtfnnbkclnflpfaaGreatDoorPartR06
import Derived.Test.YtfnnbkclnflpfaaGreatDoorPartR02
import Derived.Test.YtfnnbkclnflpfaaGreatDoorPartR08
/- Contract of the reference's Shift. -/
namespace Go.Proofs.YtfnnbkclnflpfaaGreatDoor
open Go.RowKit
attribute [local go_sem ↓] Go.wp_at_zero Go.wp_at_succ

theorem own_one (W : World) (base g : Nat) (hs : W.heap.size = g) (hb : base ≤ g) : ((W.alloc (.cells #[.int .u32 0] 70)).drew).ownsRow base 70 1 (.slice (some ⟨g, 0, none⟩) 1 1) 1 [.int .u32 0] := by
  subst hs
  exact ⟨by simp, .inr ⟨W.heap.size, 1, #[.int .u32 0], rfl, hb, heap_alloc_new W _, Nat.le_refl _, by simp [maxLen], by simp, by simp⟩⟩

theorem made_own (neg : Bool) (g n c base : Nat) (S : List Nat) (w : World) (h : w.ownsRow base 70 1 (.slice (some ⟨g, 0, none⟩) n c) n (S.map limbV)) (hf : Fits S) (hl : n ≤ 35184372088832) :
    Calls Tryz.prog 92 #[.bool neg, .slice (some ⟨g, 0, none⟩) n c] w fun e w' => ∃ v, e = .returned v ∧ IsNumM n base w' v (sval neg S) ∧ Below w.heap.size w w' := by
  obtain ⟨h1, h2, h3, h4⟩ := own_at h hf
  have := made_any base neg (some ⟨g, 0, none⟩) c S w h1 (.inr ⟨g, 0, rfl, h3⟩) (by omega)
  rw [h2] at this
  exact this

theorem ne_of_val {L : List Nat} (h : val L ≠ 0) : L ≠ [] := by
  rintro rfl
  simp [val] at h

set_option maxRecDepth 4000 in
set_option maxHeartbeats 4000000 in
theorem refShift_some (na : Bool) (ao : Option Addr) (ca : Nat) (A : List Nat) (n : Int) (w : World) (hA : LimbsAt w ao ca A) (h0 : A ≠ []) (hc : Canon A) (la : A.length ≤ 3000) (hn : -16384 ≤ n ∧ n ≤ 16384) :
    Calls Tryz.prog 113 #[.agg #[.bool na, .slice ao A.length ca], .int .i64 n] w fun e w' => ∃ v, e = .returned v ∧ IsNum 0 w' v (shV na A n) ∧ Below w.heap.size w w' := by
  obtain ⟨i0, hi, hz0, hz1, hz2⟩ := info_parts Tryz.info70
  have HZ := hide (shV_shF na A n).symm
  generalize shV na A n = z at *
  have HH0 := hide h0; have HC := hide hc
  clear h0 hc
  go_enter Tryz.func113, Tryz.ntmps113
  go_wp2
  go_loopw [1] (fun i wr => ∃ (m : Int) (nn : Bool) (a : Option Addr) (c : Nat) (L : List Nat), i = .int .i64 m ∧ -16384 ≤ m ∧ m ≤ 16384 ∧ L ≠ [] ∧ Hid (ShI w wr z m nn a c L)) (fun i _ => (intOf i).toNat)
  case atStart =>
    refine ⟨n, na, ao, ca, A, rfl, hn.1, hn.2, unhide HH0, (Box2.new _ _ _).old _, ?_, hA.below (((Below.refl _ _).alloc (Nat.le_refl _) _).alloc (by simp) _), unhide HC, fun _ => unhide HH0, by omega, unhide HZ, ((Below.refl _ _).alloc (Nat.le_refl _) _).alloc (by simp) _⟩
    have := Box2.new (w.alloc (.cells #[.bool na, .slice ao A.length ca] 27)) (.bool false) (.slice none 0 0)
    simpa using this
  case round =>
    obtain ⟨m, nn, a, c, L, rfl, hm1, hm2, hne, hI⟩ := hrel
    clear HZ HC HH0 hA la hn
    obtain ⟨x0, x1, hL, hC, hS, hlen, hz, hbel⟩ := unhide hI
    have hp : 0 < L.length := List.length_pos_iff.2 hne
    have hpI : (0 : Int) < (L.length : Int) := by omega
    have p0 := x0.c0; have p1 := x0.c1
    have HV : Hid (val L ≠ 0) := fun e => hne ((val_zero_of_canon L hC).1 e)
    by_cases hg : 32 ≤ m
    · obtain ⟨b, off, rfl, hb, hcl⟩ := hL.ne hp
      have hz' := hz
      rw [← shF_up32 _ _ hg] at hz'
      have HZ2 := hide hz'
      have zlt := x0.lt
      have zlt1 := x1.lt
      have hN : ∀ j u, (L.map limbV)[j]? = some u → ((wr.alloc (.cells #[.int .u32 0] 70)).drew).cell? ((⟨b, off, none⟩ : Addr).add j) = some u := by
        intro j u hu
        rw [List.getElem?_map] at hu
        have hj : j < L.length := by
          rcases Nat.lt_or_ge j L.length with e | e
          · exact e
          · rw [List.getElem?_eq_none e] at hu; simp at hu
        have e3 : (⟨b, off, none⟩ : Addr).add j = ⟨b, off + j, none⟩ := by simp [Addr.add]
        rw [e3, ((((Below.refl wr.heap.size wr).alloc (Nat.le_refl _) _).drew).cell (p := ⟨b, off + j, none⟩) hb), hcl j hj]
        rw [List.getElem?_eq_getElem hj] at hu ⊢
        simpa [limbV] using hu
      have hone : ∀ u ∈ L.map limbV, u.oneCell' = true := by
        intro u hu
        obtain ⟨y, _, rfl⟩ := List.mem_map.1 hu
        rfl
      have HF : Hid (Fits (0 :: L)) := by
        intro y hy
        rcases List.mem_cons.1 hy with rfl | hy
        · decide
        · exact hL.2.1 y hy
      have HN := hide hN; have HONE := hide hone; have BEL := hide hbel; have X0 := hide x0; have X1 := hide x1; have HLEN := hide hlen
      clear hz hz' hN hone x0 x1 hL hC hS hbel hI hcl
      have ll : L.length ≤ 20000 := by have := unhide HLEN; omega
      clear hlen
      go_wp2
      go_region_law (first | (refine step_append_lies _ (by rfl) _ _ _ (by rfl) wr.heap.size 70 i0 (.int .u32 0) 1 4 Tryz.underlying25 hi hz0 hz1 hz2 rfl (by omega) (.slice (some ⟨wr.heap.size, 0, none⟩) 1 1) 1 [.int .u32 0] (by rfl) (own_one wr wr.heap.size wr.heap.size rfl (Nat.le_refl _)) ⟨b, off, none⟩ L.length c (L.map limbV) (by rfl) (by simp) (unhide HN) (unhide HONE) hp (by unfold maxLen; omega) (by omega) (by simp) (wr.heap.size + 1) (by simp) ?_; intro g cp w1 hown1 hgrow hat hlt; have y0 : Box2 w1 w.heap.size (.bool nn) (.slice (some ⟨b, off, none⟩) L.length c) := (hgrow.block w.heap.size (by simp; omega) (by simp [Value.ownBlock]; omega)).trans (((unhide X0).old _).drew); have y1 : Box2 w1 (w.heap.size + 1) (.bool false) (.slice none 0 0) := (hgrow.block (w.heap.size + 1) (by simp; omega) (by simp [Value.ownBlock]; omega)).trans (((unhide X1).old _).drew); have q0 := y0.c0; have q1 := y0.c1; have Y0 := hide y0; have Y1 := hide y1; have B1 := hide ((((unhide BEL).alloc (by omega) _).drew).grown hgrow (by simp; omega) (fun k hk => by simp [Value.ownBlock] at hk; omega)); have OWN1 := hide hown1; clear hown1 hgrow hat y0 y1) | (go_simp; go_at_call 92; refine (made_own nn g (1 + L.length) cp _ (0 :: L) _ (unhide OWN1) (unhide HF) (by omega)).mono ?_; rintro e w2 ⟨v, rfl, ⟨n2, a2, c2, L2, rfl, i1⟩, hb2⟩; have I1 := hide i1; have Z0 := (unhide Y0).below hb2 (unhide Y0).lt; have Z1 := (unhide Y1).below hb2 (unhide Y1).lt; have r0 := Z0.c0; have r1 := Z0.c1; have f0 := Z0.free 0; have f1 := Z0.free 1; have B2 := hide ((unhide B1).trans (hb2.mono (unhide B1).size)); have ZZ0 := hide Z0; have ZZ1 := hide Z1; clear i1 hb2 Z0 Z1))
      all_goals
        go_wp2
        go_roundw
        case rel =>
          refine ⟨m - 32, n2, a2, c2, L2, by go_num, by omega, by omega, ne_of_val ?_, ShI.step (v := 4294967296 * val L) (unhide ZZ0) (unhide ZZ1) (unhide I1) (by rw [sval_sg, zero_limbs]) (unhide HZ2) (by have := unhide HLEN; omega) (unhide B2)⟩
          have h5 := (unhide I1).2.2.2.2.1
          rw [natAbs_sval, zero_limbs] at h5
          have := unhide HV
          omega
        case measure => simp [intOf]; omega
    · have HI := hI
      have hgI : ¬ (32 : Int) ≤ m := by omega
      clear hI x0 x1 hL hC hS hlen hz hbel
      go_wp2
      go_loopw [1] (fun i wr => ∃ (m : Int) (nn : Bool) (a : Option Addr) (c : Nat) (L : List Nat), i = .int .i64 m ∧ -16384 ≤ m ∧ m ≤ 31 ∧ L ≠ [] ∧ Hid (ShI w wr z m nn a c L)) (fun i _ => (intOf i).toNat)
      case atStart => exact ⟨m, nn, a, c, L, rfl, by omega, by omega, hne, HI⟩
      case round =>
        clear HI HV p0 p1 hpI hp hne hgI hg hm1 hm2
        obtain ⟨m, nn, a, c, L, rfl, hm1, hm2, hne, hI⟩ := hrel
        obtain ⟨x0, x1, hL, hC, hS, hlen, hz, hbel⟩ := unhide hI
        have hp : 0 < L.length := List.length_pos_iff.2 hne
        have hpI : (0 : Int) < (L.length : Int) := by omega
        have p0 := x0.c0; have p1 := x0.c1
        by_cases hg : 0 < m
        · have HV : Hid (val L ≠ 0) := fun e => hne ((val_zero_of_canon L hC).1 e)
          have hz' := hz
          rw [← shF_up1 _ _ (by omega)] at hz'
          have HZ2 := hide hz'
          have BEL := hide hbel; have X0 := hide x0; have X1 := hide x1; have HLEN := hide hlen; have HLL := hide hL
          clear hz hz' x0 x1 hL hC hS hbel hI hlen
          go_wp2_with fail
          refine (double_any nn a c L wr (unhide HLL) (by have := unhide HLEN; omega)).mono ?_
          rintro e w2 ⟨v, rfl, ⟨n2, a2, c2, L2, rfl, i1⟩, hb2⟩
          have I1 := hide i1
          have Z0 := (unhide X0).below hb2 (unhide X0).lt
          have Z1 := (unhide X1).below hb2 (unhide X1).lt
          have r0 := Z0.c0; have r1 := Z0.c1; have f0 := Z0.free 0; have f1 := Z0.free 1
          have B2 := hide ((unhide BEL).trans (hb2.mono (unhide BEL).size))
          have ZZ0 := hide Z0; have ZZ1 := hide Z1
          clear i1 hb2 Z0 Z1
          go_wp2
          go_roundw
          case rel =>
            refine ⟨m - 1, n2, a2, c2, L2, by go_num, by omega, by omega, ne_of_val ?_, ShI.step (v := val L + val L) (unhide ZZ0) (unhide ZZ1) (unhide I1) rfl (unhide HZ2) (by have := unhide HLEN; omega) (unhide B2)⟩
            have h5 := (unhide I1).2.2.2.2.1
            rw [natAbs_sg] at h5
            have := unhide HV
            omega
          case measure => simp [intOf]; omega
        · have HI := hI
          clear hI x0 x1 hL hC hS hlen hz hbel
          go_wp2
          go_loopw [1] (fun i wr => ∃ (m : Int) (nn : Bool) (a : Option Addr) (c : Nat) (L : List Nat), i = .int .i64 m ∧ -16384 ≤ m ∧ m ≤ 0 ∧ Hid (ShI w wr z m nn a c L)) (fun i _ => (-(intOf i)).toNat)
          case atStart => exact ⟨m, nn, a, c, L, rfl, by omega, by omega, HI⟩
          case round =>
            clear HI p0 p1 hpI hp hne hg hm1 hm2
            obtain ⟨m, nn, a, c, L, rfl, hm1, hm2, hI⟩ := hrel
            obtain ⟨x0, x1, hL, hC, hS, hlen, hz, hbel⟩ := unhide hI
            have p0 := x0.c0; have p1 := x0.c1
            by_cases hgp : m ≤ -32 ∧ 0 < L.length
            · obtain ⟨hg, hp⟩ := hgp
              · have hpI : (0 : Int) < (L.length : Int) := by omega
                have hcap := hL.1
                obtain ⟨b, off, rfl, hb, hcl⟩ := hL.ne hp
                have hz' := hz
                rw [← shF_dn32 _ _ hg] at hz'
                have HZ2 := hide hz'
                have BEL := hide hbel; have X0 := hide x0; have X1 := hide x1; have HLEN := hide hlen; have HLL := hide (hL.below ((Below.refl _ _).drew))
                clear hz hz' x0 x1 hL hC hS hbel hI hlen hcl
                go_wp2
                have h1I : (1 : Int) ≤ (L.length : Int) := by omega
                have h2I : (L.length : Int) ≤ (c : Int) := by omega
                have h3I : (1 : Int) ≤ (c : Int) := by omega
                by_cases hc1 : c = 1
                · subst hc1
                  go_region_with (go_at_call 92; refine (made_drop1 nn b off L _ (unhide HLL)).mono ?_; rintro e w2 ⟨v, rfl, ⟨n2, a2, c2, L2, rfl, i1⟩, hb2⟩; have I1 := hide i1; have Z0 := (unhide X0).drew.below hb2 (unhide X0).drew.lt; have Z1 := (unhide X1).drew.below hb2 (unhide X1).drew.lt; have r0 := Z0.c0; have r1 := Z0.c1; have f0 := Z0.free 0; have f1 := Z0.free 1; have B2 := hide (((unhide BEL).drew).trans (hb2.mono ((unhide BEL).drew).size)); have ZZ0 := hide Z0; have ZZ1 := hide Z1; clear i1 hb2 Z0 Z1)
                  all_goals
                    go_wp2
                    go_roundw
                    case rel => exact ⟨m + 32, n2, a2, c2, L2, by go_num, by omega, by omega, ShI.step (v := val L / 4294967296) (unhide ZZ0) (unhide ZZ1) (unhide I1) rfl (unhide HZ2) (by have := unhide HLEN; omega) (unhide B2)⟩
                    case measure => simp [intOf]; omega
                · have hc1I : ¬ (c : Int) = 1 := by omega
                  go_region_with (go_at_call 92; refine (made_drop nn b off c L _ (unhide HLL) (by have := unhide HLEN; omega)).mono ?_; rintro e w2 ⟨v, rfl, ⟨n2, a2, c2, L2, rfl, i1⟩, hb2⟩; have I1 := hide i1; have Z0 := (unhide X0).drew.below hb2 (unhide X0).drew.lt; have Z1 := (unhide X1).drew.below hb2 (unhide X1).drew.lt; have r0 := Z0.c0; have r1 := Z0.c1; have f0 := Z0.free 0; have f1 := Z0.free 1; have B2 := hide (((unhide BEL).drew).trans (hb2.mono ((unhide BEL).drew).size)); have ZZ0 := hide Z0; have ZZ1 := hide Z1; clear i1 hb2 Z0 Z1)
                  all_goals
                    go_wp2
                    go_roundw
                    case rel => exact ⟨m + 32, n2, a2, c2, L2, by go_num, by omega, by omega, ShI.step (v := val L / 4294967296) (unhide ZZ0) (unhide ZZ1) (unhide I1) rfl (unhide HZ2) (by have := unhide HLEN; omega) (unhide B2)⟩
                    case measure => simp [intOf]; omega
            · have HI := hI
              rcases (show (m ≤ -32 ∧ ¬ (0 : Int) < (L.length : Int)) ∨ ¬ m ≤ -32 by omega) with ⟨hg, hp⟩ | hg
              all_goals
                clear hI x0 x1 hL hC hS hlen hz hbel hgp
                go_wp2
                go_loopw [1] (fun i wr => ∃ (m : Int) (nn : Bool) (a : Option Addr) (c : Nat) (L : List Nat), i = .int .i64 m ∧ -16384 ≤ m ∧ m ≤ 0 ∧ Hid (ShI w wr z m nn a c L)) (fun i _ => (-(intOf i)).toNat)
                case atStart => exact ⟨m, nn, a, c, L, rfl, by omega, by omega, HI⟩
                case round =>
                  clear HI p0 p1 hg hm1 hm2
                  obtain ⟨m, nn, a, c, L, rfl, hm1, hm2, hI⟩ := hrel
                  obtain ⟨x0, x1, hL, hC, hS, hlen, hz, hbel⟩ := unhide hI
                  have p0 := x0.c0; have p1 := x0.c1
                  by_cases hgq : m < 0 ∧ 0 < L.length
                  · obtain ⟨hg, hp⟩ := hgq
                    have hpI : (0 : Int) < (L.length : Int) := by omega
                    have hz' := hz
                    rw [← shF_dn1 _ _ (by omega)] at hz'
                    have HZ2 := hide hz'
                    have BEL := hide hbel; have X0 := hide x0; have X1 := hide x1; have HLEN := hide hlen; have HLL := hide hL
                    clear hz hz' x0 x1 hL hC hS hbel hI hlen
                    go_wp2_with fail
                    refine (half_any nn a c L wr (unhide HLL) (by have := unhide HLEN; omega)).mono ?_
                    rintro e w2 ⟨v, rfl, ⟨n2, a2, c2, L2, rfl, i1⟩, hb2⟩
                    have I1 := hide i1
                    have Z0 := (unhide X0).below hb2 (unhide X0).lt
                    have Z1 := (unhide X1).below hb2 (unhide X1).lt
                    have r0 := Z0.c0; have r1 := Z0.c1; have f0 := Z0.free 0; have f1 := Z0.free 1
                    have B2 := hide ((unhide BEL).trans (hb2.mono (unhide BEL).size))
                    have ZZ0 := hide Z0; have ZZ1 := hide Z1
                    clear i1 hb2 Z0 Z1
                    go_wp2
                    go_roundw
                    case rel => exact ⟨m + 1, n2, a2, c2, L2, by go_num, by omega, by omega, ShI.step (v := val L / 2) (unhide ZZ0) (unhide ZZ1) (unhide I1) rfl (unhide HZ2) (by have := unhide HLEN; omega) (unhide B2)⟩
                    case measure => simp [intOf]; omega
                  · have hlast := hI.out.last (by rcases Nat.eq_zero_or_pos L.length with e | e; (right; exact List.length_eq_zero_iff.1 e); (left; omega))
                    have HLA := hide hlast
                    have X1 := hide x1; have BEL := hide hbel; have HLL := hide hL
                    have y0 := x1.c0; have y1 := x1.c1; have f0 := x1.free 0; have f1 := x1.free 1
                    rcases (show (m < 0 ∧ ¬ (0 : Int) < (L.length : Int)) ∨ ¬ m < 0 by omega) with ⟨hg, hp⟩ | hg
                    all_goals
                      clear hI x0 x1 hL hC hS hlen hz hbel hgq hlast
                      go_wp2
                      refine bodyPost_ret (v := .agg #[.bool nn, .slice a L.length c]) (by simp [results, Tryz.results113, go_sem, y0, y1]) rfl ⟨.agg #[.bool nn, .slice a L.length c], rfl, ?_, ?_⟩
                      · obtain ⟨neg, a', c', L', e1, e2, e3⟩ := unhide HLA
                        refine ⟨neg, a', c', L', e1, e2.box (unhide X1) _ _, e3⟩
                      · exact ((unhide BEL).setCell (by simp) _).setCell (by simp) _

end Go.Proofs.YtfnnbkclnflpfaaGreatDoor

/- A right number that came in. -/
namespace Go.Proofs.YtfnnbkclnflpfaaGreatDoor
open Go.RowKit

/-- A right number that came in, as a number. -/
theorem right_num {B : Nat} {w : World} {neg : Bool} {ao : Option Addr} {cap : Nat} {L : List Nat} (h : LimbsAt w ao cap L) (hr : rightB neg L = true) (hn : NewAt B ao L) : IsNum B w (.agg #[.bool neg, .slice ao L.length cap]) (sval neg L) := by
  have hc := right_canon hr
  by_cases h0 : L = []
  · subst h0
    have : neg = false := by cases neg <;> simp_all
    subst this
    exact IsNum.zero _ _ _ _
  · exact IsNum.mk h hn hc.2.1 h0 (by omega)

end Go.Proofs.YtfnnbkclnflpfaaGreatDoor

/- The reference's Shift of any right number; light. -/
namespace Go.Proofs.YtfnnbkclnflpfaaGreatDoor
open Go.RowKit
attribute [local go_sem ↓] Go.wp_at_zero Go.wp_at_succ

set_option maxHeartbeats 4000000 in
theorem refShift_none (ao : Option Addr) (ca : Nat) (n : Int) (w : World) :
    Calls Tryz.prog 113 #[.agg #[.bool false, .slice ao 0 ca], .int .i64 n] w fun e w' => ∃ v, e = .returned v ∧ IsNum 0 w' v 0 ∧ Below w.heap.size w w' := by
  rcases (show (32 ≤ n ∧ 0 < n ∧ ¬ n ≤ -32 ∧ ¬ n < 0) ∨ (¬ 32 ≤ n ∧ 0 < n ∧ ¬ n ≤ -32 ∧ ¬ n < 0) ∨ (¬ 32 ≤ n ∧ ¬ 0 < n ∧ ¬ n ≤ -32 ∧ ¬ n < 0) ∨ (¬ 32 ≤ n ∧ ¬ 0 < n ∧ ¬ n ≤ -32 ∧ n < 0) ∨ (¬ 32 ≤ n ∧ ¬ 0 < n ∧ n ≤ -32 ∧ n < 0) by omega) with ⟨h1, h2, h3, h4⟩ | ⟨h1, h2, h3, h4⟩ | ⟨h1, h2, h3, h4⟩ | ⟨h1, h2, h3, h4⟩ | ⟨h1, h2, h3, h4⟩
  all_goals
    go_enter Tryz.func113, Tryz.ntmps113
    go_wp2
    go_loopw [1] (fun i wr => i = .int .i64 n ∧ wr = (w.alloc (.cells #[.bool false, .slice ao 0 ca] 27)).alloc (.cells #[.bool false, .slice none 0 0] 27)) (fun _ _ => 0)
    case atStart => exact ⟨rfl, rfl⟩
    case round =>
      obtain ⟨rfl, rfl⟩ := hrel
      go_wp2
      go_loopw [1] (fun i wr => i = .int .i64 n ∧ wr = (w.alloc (.cells #[.bool false, .slice ao 0 ca] 27)).alloc (.cells #[.bool false, .slice none 0 0] 27)) (fun _ _ => 0)
      case atStart => exact ⟨rfl, rfl⟩
      case round =>
        obtain ⟨rfl, rfl⟩ := hrel
        go_wp2
        go_loopw [1] (fun i wr => i = .int .i64 n ∧ wr = (w.alloc (.cells #[.bool false, .slice ao 0 ca] 27)).alloc (.cells #[.bool false, .slice none 0 0] 27)) (fun _ _ => 0)
        case atStart => exact ⟨rfl, rfl⟩
        case round =>
          obtain ⟨rfl, rfl⟩ := hrel
          go_wp2
          go_loopw [1] (fun i wr => i = .int .i64 n ∧ wr = (w.alloc (.cells #[.bool false, .slice ao 0 ca] 27)).alloc (.cells #[.bool false, .slice none 0 0] 27)) (fun _ _ => 0)
          case atStart => exact ⟨rfl, rfl⟩
          case round =>
            obtain ⟨rfl, rfl⟩ := hrel
            go_wp2
            refine bodyPost_ret (v := .agg #[.bool false, .slice ao 0 ca]) (by simp [results, Tryz.results113, go_sem]) rfl ⟨.agg #[.bool false, .slice ao 0 ca], rfl, IsNum.zero _ _ _ _, ?_⟩
            exact ((Below.refl _ _).alloc (Nat.le_refl _) _).alloc (by simp) _

theorem refShift_any (na : Bool) (ao : Option Addr) (ca : Nat) (A : List Nat) (n : Int) (w : World) (hA : LimbsAt w ao ca A) (hr : rightB na A = true) (hn : -16384 ≤ n ∧ n ≤ 16384) :
    Calls Tryz.prog 113 #[.agg #[.bool na, .slice ao A.length ca], .int .i64 n] w fun e w' => ∃ v, e = .returned v ∧ IsNum 0 w' v (shV na A n) ∧ Below w.heap.size w w' := by
  have hc := right_canon hr
  by_cases h0 : A = []
  · subst h0
    have : na = false := by cases na <;> simp_all
    subst this
    have e : shV false [] n = 0 := by rw [shV_shF]; simp [val, shF_zero, sg]
    rw [e]
    exact refShift_none ao ca n w
  · exact refShift_some na ao ca A n w hA h0 hc.2.1 (by omega) hn

/-- Can numbers be gone through here? -/
def lt1 (n : Bool) (L : List Nat) : Bool := decide (L.length ≤ 40) || !rightB n L

end Go.Proofs.YtfnnbkclnflpfaaGreatDoor

/- Contract of the reference's single: limbs times one limb. -/
namespace Go.Proofs.YtfnnbkclnflpfaaGreatDoor
open Go.RowKit

theorem single_step (A S : List Nat) (x c y : Nat) (hy : A[S.length]?.getD 0 = y) (h : val S + 4294967296 ^ S.length * c = val (A.take S.length) * x) :
    val (S ++ [(y * x + c) % 4294967296]) + 4294967296 ^ (S.length + 1) * ((y * x + c) / 4294967296) = val (A.take (S.length + 1)) * x := by
  rw [val_snoc, val_take_succ A, hy, Nat.add_mul]
  have e := pow_step (4294967296 ^ S.length) 4294967296 (y * x + c)
  rw [Nat.pow_succ]
  rw [Nat.mul_add, ← Nat.mul_assoc] at e
  omega

theorem single_casts (x y c : Nat) : (((y * x + c) % 4294967296 : Nat) : Int) = ((y : Int) * (x : Int) + (c : Int)) % 4294967296 ∧ (((y * x + c) / 4294967296 : Nat) : Int) = ((y : Int) * (x : Int) + (c : Int)) / 4294967296 := by
  have e : ((y * x : Nat) : Int) = (y : Int) * (x : Int) := Int.natCast_mul y x
  rw [← e]
  omega

set_option maxHeartbeats 400000 in
theorem single_any (ao : Option Addr) (ca : Nat) (A : List Nat) (x : Nat) (w : World) (hA : LimbsAt w ao ca A) (bx : x < 4294967296) (la : A.length ≤ 1073741824) :
    Calls Tryz.prog 138 #[.slice ao A.length ca, .int .u32 (x : Int)] w fun e w' => ∃ ao' cap' L', e = .returned (.slice ao' L'.length cap') ∧ LimbsAt w' ao' cap' L' ∧ NewAt w.heap.size ao' L' ∧ L'.length = A.length + 1 ∧ val L' = val A * x ∧ Below w.heap.size w w' := by
  obtain ⟨i0, hi, hz0, hz1, hz2⟩ := info_parts Tryz.info70
  have hst := fun (S : List Nat) (c y : Nat) => single_step A S x c y
  have hen : ∀ (S : List Nat) (c : Nat), S.length = A.length → val S + 4294967296 ^ S.length * c = val (A.take S.length) * x → val (S ++ [c]) = val A * x := by
    intro S c hl h
    rw [val_snoc, h, hl, List.take_length]
  have HST := hide hst
  have HEN := hide hen
  clear hst hen
  go_enter Tryz.func138, Tryz.ntmps138
  go_wp2
  go_loopw [5, 6, 7, 8] (fun v c i _ wr => ∃ (S : List Nat) (y : Nat), S.length ≤ A.length ∧ i = .int .i64 (S.length : Nat) ∧ c = .int .u64 y ∧ y < 4294967296 ∧ wr.ownsRow w.heap.size 70 1 v S.length (S.map limbV) ∧ Fits S ∧ Below w.heap.size w wr ∧ Hid (val S + 4294967296 ^ S.length * y = val (A.take S.length) * x))
    (fun _ _ i _ _ => A.length - (intOf i).toNat)
  case atStart =>
    refine ⟨[], 0, by simp, rfl, rfl, by omega, ?_, by intro x hx; simp at hx, (Below.refl _ _).alloc (Nat.le_refl _) _, by unfold Hid; simp [val]⟩
    exact World.ownsRow_made w #[] 0 (Nat.le_refl _) (by simp [maxLen]) (by simp)
  case round =>
    obtain ⟨S, y, hk, rfl, rfl, hy, hown, hf, hbel, hv⟩ := hrel
    by_cases hlt : S.length < A.length
    · obtain ⟨z, hz⟩ : ∃ z, A[S.length]?.getD 0 = z := ⟨_, rfl⟩
      have bz : z < 4294967296 := by rw [← hz]; exact hA.lt _
      obtain ⟨b1, o1, hao, hb1', hc1⟩ := hA.ne (by omega)
      have ca1 := hc1 S.length hlt
      rw [hz] at ca1
      have dA : wr.cell? ⟨b1, o1 + S.length, none⟩ = some (.int .u32 (z : Int)) := by rw [hbel.cell (p := ⟨b1, o1 + S.length, none⟩) hb1']; exact ca1
      have HS2 := hide (unhide HST S y z hz hv.out)
      have hzx := mul_lt z x bz bx
      obtain ⟨hzxI, hzx0⟩ := mul_ltI z x bz bx
      obtain ⟨ec, ed⟩ := single_casts x z y
      have by' : (z * x + y) / 4294967296 < 4294967296 := by omega
      have EC := hide ec; have ED := hide ed; have BY := hide by'
      have hsz := hbel.size
      have HF := hide hf
      clear hz hv HST HEN hf hc1 ca1 ec ed by' hzx
      subst hao
      generalize hSl : S.length = k at *
      have HSL := hide hSl
      clear hSl
      have hki : (k : Int) < (A.length : Int) := by omega
      go_wp2_with (at_builtin; refine wpList_append_own _ rfl _ _ 25 rfl w.heap.size 70 i0 (.int .u32 0) 1 4 Tryz.underlying25 hi hz0 hz1 hz2 rfl (by decide) _ _ _ rfl (hown.alloc _) ⟨wr.heap.size, 0, none⟩ 1 1 [.int .u32 (((z : Int) * (x : Int) + (y : Int)) % 4294967296)] rfl rfl (cell_one_new _ _ _) (fun u hu => by simp at hu; subst hu; rfl) (by unfold maxLen; omega) (by omega) (by simp; omega) ?_; intro v' w1 hown' hgrow _; have hbl : Below w.heap.size w w1 := ((hbel.alloc hsz _).grown hgrow (by simp; omega) (fun g hg => (hown.lt g hg).1)); have ho2 := hide (own_snoc (x := (z * x + y) % 4294967296) hown' (unhide EC).symm); clear hown' hgrow)
      have hS2 := unhide HS2
      have hl2 : (S ++ [(z * x + y) % 4294967296]).length = k + 1 := by simp [unhide HSL]
      go_roundw
      case rel => exact ⟨S ++ [(z * x + y) % 4294967296], (z * x + y) / 4294967296, by omega, by rw [hl2]; go_num, int_eq (unhide ED).symm, unhide BY, by rw [hl2]; exact unhide ho2, (unhide HF).snoc (Nat.mod_lt _ (by decide)), hbl, by rw [hl2]; exact hS2⟩
      case measure => simp [intOf]; omega
    · have hsl : S.length = A.length := by omega
      have hend := unhide HEN S y hsl hv.out
      have HEND := hide hend
      have HSL := hide hsl
      have hsz := hbel.size
      have HF := hide (hf.snoc hy)
      clear hend hv HST HEN hf hsl
      have hki : ¬ ((S.length : Nat) : Int) < (A.length : Int) := by omega
      go_wp2_with (at_builtin; refine wpList_append_own _ rfl _ _ 25 rfl w.heap.size 70 i0 (.int .u32 0) 1 4 Tryz.underlying25 hi hz0 hz1 hz2 rfl (by decide) _ _ _ rfl (hown.alloc _) ⟨wr.heap.size, 0, none⟩ 1 1 [.int .u32 (y : Int)] rfl rfl (cell_one_new _ _ _) (fun u hu => by simp at hu; subst hu; rfl) (by unfold maxLen; omega) (by omega) (by simp; omega) ?_; intro v' w1 hown' hgrow _; have hbl : Below w.heap.size w w1 := ((hbel.alloc hsz _).grown hgrow (by simp; omega) (fun g hg => (hown.lt g hg).1)); have ho2 := hide (own_snoc (x := y) hown' rfl); clear hown' hgrow)
      obtain ⟨ao', cap', e1, e2, e3, e4⟩ := own_limbs (unhide ho2) (unhide HF)
      subst e1
      go_ret
      exact ⟨ao', cap', S ++ [y], rfl, e2, e3, by have := unhide HSL; simp; omega, unhide HEND, hbl⟩

end Go.Proofs.YtfnnbkclnflpfaaGreatDoor

/- Contract of the reference's Mul. -/
namespace Go.Proofs.YtfnnbkclnflpfaaGreatDoor
open Go.RowKit
attribute [local go_sem ↓] Go.wp_at_zero Go.wp_at_succ

theorem own_zero (W : World) : (W.alloc (.cells #[.int .u32 0] 70)).ownsRow W.heap.size 70 1 (.slice (some ⟨W.heap.size, 0, none⟩) 1 1) 1 [.int .u32 0] :=
  ⟨by simp, .inr ⟨W.heap.size, 1, #[.int .u32 0], rfl, Nat.le_refl _, heap_alloc_new W _, Nat.le_refl _, by simp [maxLen], by simp, by simp⟩⟩

theorem val_drop_succ (B : List Nat) (k : Nat) (h : k < B.length) : val (B.drop k) = B[k]?.getD 0 + 4294967296 * val (B.drop (k + 1)) := by
  rw [List.drop_eq_getElem_cons h]
  simp [val, h]

theorem mul_sign (na nb : Bool) (A B S : List Nat) (h : val S = val A * val B) : sval (na != nb) S = sval na A * sval nb B := by
  unfold sval
  rw [h]
  cases na <;> cases nb <;> simp [Int.natCast_mul, Int.neg_mul, Int.mul_neg]

set_option maxHeartbeats 2000000 in
theorem refMul_any (na nb : Bool) (ao bo : Option Addr) (ca cb : Nat) (A B : List Nat) (w : World) (hA : LimbsAt w ao ca A) (hB : LimbsAt w bo cb B) (la : A.length ≤ 1048576) (lb : B.length ≤ 1048576) :
    Calls Tryz.prog 96 #[.agg #[.bool na, .slice ao A.length ca], .agg #[.bool nb, .slice bo B.length cb]] w fun e w' => ∃ v, e = .returned v ∧ IsNum 0 w' v (sval na A * sval nb B) ∧ Below w.heap.size w w' := by
  obtain ⟨i0, hi, hz0, hz1, hz2⟩ := info_parts Tryz.info70
  have HZ := hide (fun S => mul_sign na nb A B S)
  generalize sval na A * sval nb B = z at *
  go_enter Tryz.func96, Tryz.ntmps96
  go_wp2
  go_loopw [5, 6, 7] (fun v i _ wr => ∃ (m b off cap : Nat) (S : List Nat), m ≤ B.length ∧ i = .int .i64 ((m : Int) - 1) ∧ v = .slice (some ⟨b, off, none⟩) S.length cap ∧ Hid (LimbsAt wr (some ⟨b, off, none⟩) cap S) ∧ Box2 wr w.heap.size (.bool na) (.slice ao A.length ca) ∧ Box2 wr (w.heap.size + 1) (.bool nb) (.slice bo B.length cb) ∧ Box2 wr (w.heap.size + 2) (.bool false) (.slice none 0 0) ∧ S.length + 2 * m ≤ A.length + 1 + 2 * B.length ∧ Hid (val S = val A * val (B.drop m)) ∧ Below w.heap.size w wr)
    (fun _ i _ _ => (intOf i + 1).toNat)
  case atStart =>
    refine ⟨B.length, w.heap.size + 3, 0, 0, [], Nat.le_refl _, rfl, rfl, LimbsAt.nil _ _ _, (((Box2.new _ _ _).old _).old _).old _, ?_, ?_, by simp, by unfold Hid; simp [val], ?_⟩
    · have := ((Box2.new (w.alloc (.cells #[.bool na, .slice ao A.length ca] 27)) (.bool nb) (.slice bo B.length cb)).old (.cells #[.bool false, .slice none 0 0] 27)).old (.cells #[] 70)
      simpa using this
    · have := (Box2.new ((w.alloc (.cells #[.bool na, .slice ao A.length ca] 27)).alloc (.cells #[.bool nb, .slice bo B.length cb] 27)) (.bool false) (.slice none 0 0)).old (.cells #[] 70)
      simpa using this
    · exact ((((Below.refl _ _).alloc (Nat.le_refl _) _).alloc (by simp) _).alloc (by simp; omega) _).alloc (by simp; omega) _
  case round =>
    obtain ⟨m, b, off, cap, S, hm, rfl, rfl, hS, x0, x1, x2, hlen, hv, hbel⟩ := hrel
    by_cases h0 : m = 0
    · subst h0
      have hz := unhide HZ S (by have := hv.out; simpa using this)
      have Z := hide hz
      have X2 := hide x2; have BEL := hide hbel
      have p0 := x0.c0; have q0 := x1.c0
      have zlt := x2.lt
      clear hz HZ hv x0 x1 x2 hbel hA hB
      go_wp2_with fail
      have hcall := made_any 0 (na != nb) (some ⟨b, off, none⟩) cap S wr (unhide hS) (NewAt.zero (unhide hS)) (by omega)
      rw [unhide Z] at hcall
      have hbool : (!na == nb) = (na != nb) := by cases na <;> cases nb <;> rfl
      rw [hbool]
      refine hcall.mono ?_
      rintro e w2 ⟨v, rfl, ⟨n2, a2, c2, L2, rfl, i1⟩, hb2⟩
      have X4 := (unhide X2).below hb2 (unhide X2).lt
      have y0 := X4.c0; have y1 := X4.c1; have f0 := X4.free 0; have f1 := X4.free 1
      have HB2 := hide ((unhide BEL).trans (hb2.mono (by omega)))
      have I1 := hide i1; have XX4 := hide X4
      clear hcall X4 hb2 i1
      go_wp2
      refine bodyPost_ret (v := .agg #[.bool n2, .slice a2 L2.length c2]) (by simp [results, Tryz.results96, go_sem, y0, y1]) rfl ⟨.agg #[.bool n2, .slice a2 L2.length c2], rfl, ?_, ?_⟩
      · have i := unhide I1
        exact ⟨n2, a2, c2, L2, rfl, i.1.box (unhide XX4) _ _, i.2.1, i.2.2.1, i.2.2.2.1, i.2.2.2.2.1, by have := i.2.2.2.2.2; omega⟩
      · exact ((unhide HB2).setCell (by simp; omega) _).setCell (by simp; omega) _
    · obtain ⟨k, rfl⟩ : ∃ k, m = k + 1 := ⟨m - 1, by omega⟩
      rw [show (((k + 1 : Nat) : Int) - 1) = (k : Int) by omega]
      clear h0 HZ
      obtain ⟨x, hx⟩ : ∃ x, B[k]?.getD 0 = x := ⟨_, rfl⟩
      have bx : x < 4294967296 := by rw [← hx]; exact hB.lt _
      obtain ⟨b2, o2, hbo, hb2', hc2⟩ := hB.ne (by omega)
      have cb2 := hc2 k (by omega)
      rw [hx] at cb2
      have hstep : ∀ L1 L2 : List Nat, val L1 = val A * x → val L2 = val (0 :: S) + val L1 → val L2 = val A * val (B.drop k) := by
        intro L1 L2 e1 e2
        have := hv.out
        rw [e2, e1, val_drop_succ B k (by omega), hx, Nat.mul_add]
        simp only [val]
        rw [this, Nat.zero_add, ← Nat.mul_assoc, ← Nat.mul_assoc, Nat.mul_comm 4294967296 (val A)]
        omega
      have hnews : ∀ j u, (S.map limbV)[j]? = some u → (wr.alloc (.cells #[.int .u32 0] 70)).cell? ((⟨b, off, none⟩ : Addr).add j) = some u := by
        intro j u hu
        rw [List.getElem?_map] at hu
        have hj : j < S.length := by
          rcases Nat.lt_or_ge j S.length with e | e
          · exact e
          · rw [List.getElem?_eq_none e] at hu; simp at hu
        obtain ⟨b', off', e0, hb', hcl⟩ := (unhide hS).ne (by omega)
        simp only [Option.some.injEq, Addr.mk.injEq, and_true] at e0
        obtain ⟨rfl, rfl⟩ := e0
        have e3 : (⟨b, off, none⟩ : Addr).add j = ⟨b, off + j, none⟩ := by simp [Addr.add]
        rw [e3, ((Below.refl wr.heap.size wr).alloc (Nat.le_refl _) _).cell (p := ⟨b, off + j, none⟩) hb', hcl j hj]
        rw [List.getElem?_eq_getElem hj] at hu ⊢
        simpa [limbV] using hu
      have hone : ∀ u ∈ S.map limbV, u.oneCell' = true := by
        intro u hu
        obtain ⟨y, _, rfl⟩ := List.mem_map.1 hu
        rfl
      have hfit : Fits (0 :: S) := by
        intro y hy
        rcases List.mem_cons.1 hy with rfl | hy
        · decide
        · exact (unhide hS).2.1 y hy
      have HSTEP := hide hstep; have HNEWS := hide hnews; have HONE := hide hone; have HFIT := hide hfit; have HCB := hide cb2
      have X0 := hide x0; have X1 := hide x1; have X2 := hide x2; have BEL := hide hbel; have HLEN := hide hlen
      have z0 := x0.lt; have z1 := x1.lt; have z2 := x2.lt
      have ls : S.length ≤ 4000000 := by omega
      have hk0 : (0 : Int) ≤ (k : Int) := by omega
      have hkI : (k : Int) < (B.length : Int) := by omega
      subst hbo
      have HA := hide hA; have HB := hide hb2'
      clear hstep hnews hone hfit cb2 x0 x1 x2 hbel hlen hv hx hc2 hA hB hS hb2'
      go_wp2_with (at_builtin; refine wpList_append_own _ rfl _ _ 25 rfl wr.heap.size 70 i0 (.int .u32 0) 1 4 Tryz.underlying25 hi hz0 hz1 hz2 rfl (by decide) _ 1 [.int .u32 0] rfl (own_zero wr) ⟨b, off, none⟩ S.length cap (S.map limbV) rfl (by simp) (unhide HNEWS) (unhide HONE) (by unfold maxLen; omega) (by omega) (by simp) ?_; intro v' w1 hown' hgrow _; have ho2 := hide hown'; have hgr := hide hgrow; clear hown' hgrow)
      obtain ⟨ao', cap', e1, e2, e3, e4⟩ := own_limbs (S := 0 :: S) (unhide ho2) (unhide HFIT)
      subst e1
      have hbl : Below wr.heap.size wr w1 := ((Below.refl _ _).alloc (Nat.le_refl _) _).grown (unhide hgr) (by simp) (fun g hg => by have e : some wr.heap.size = some g := hg; cases e; exact Nat.le_refl _)
      have x0 := (unhide X0).below hbl (unhide X0).lt
      have x1 := (unhide X1).below hbl (unhide X1).lt
      have x2 := (unhide X2).below hbl (unhide X2).lt
      have b1 : Below w.heap.size w w1 := (unhide BEL).trans (hbl.mono (unhide BEL).size)
      have hcb : w1.cell? ⟨b2, o2 + k, none⟩ = some (.int .u32 (x : Int)) := by rw [b1.cell (p := ⟨b2, o2 + k, none⟩) (unhide HB)]; exact unhide HCB
      have hb2w : b2 < w1.heap.size := Nat.lt_of_lt_of_le (unhide HB) b1.size
      have hlS : (0 :: S).length ≤ 35184372088830 := by simp; omega
      have hSA := hide ((unhide HA).below b1)
      have E2 := hide e2; have B1 := hide b1; have Y0 := hide x0; have Y1 := hide x1; have Y2 := hide x2
      have hK : ∀ w', Below w1.heap.size w1 w' → Below w1.heap.size w1 w' ∧ w'.cell? ⟨w.heap.size, 1, none⟩ = some (.slice ao A.length ca) ∧ w'.cell? ⟨w.heap.size + 1, 1, none⟩ = some (.slice (some ⟨b2, o2, none⟩) B.length cb) ∧ w'.cell? ⟨b2, o2 + k, none⟩ = some (.int .u32 (x : Int)) := fun w' h =>
        ⟨h, (x0.below h x0.lt).c1, (x1.below h x1.lt).c1, (h.cell (p := ⟨b2, o2 + k, none⟩) hb2w).trans hcb⟩
      have HK := hide hK
      clear hK x0 x1 x2 b1 hcb e2 e3 e4 ho2 hgr hbl X0 X1 X2 BEL HCB HNEWS HONE HFIT HA HB
      refine at_world (fun W => W = w1) rfl ?_
      rintro W0 e0
      subst e0
      go_region_held3 (fun w' => Below W0.heap.size W0 w' ∧ w'.cell? ⟨w.heap.size, 1, none⟩ = some (.slice ao A.length ca) ∧ w'.cell? ⟨w.heap.size + 1, 1, none⟩ = some (.slice (some ⟨b2, o2, none⟩) B.length cb) ∧ w'.cell? ⟨b2, o2 + k, none⟩ = some (.int .u32 (x : Int)))
        (first | exact unhide HK _ (Below.refl _ _).drew | exact unhide HK _ (by assumption))
        (first | (go_at_call 138; refine (single_any ao ca A x _ ((unhide hSA).below (And.left (by assumption))) bx (by omega)).mono ?_; rintro e w3 ⟨ao3, c3, L3, rfl, g1, g2, g3, g4, hb1⟩; have hB1 : Below W0.heap.size W0 w3 := Below.trans (And.left (by assumption)) (hb1.mono (Below.size (And.left (by assumption)))); have G1 := hide g1; have G3 := hide g3; have G4 := hide g4; have l3 : L3.length ≤ 35184372088830 := (by omega); clear hb1 g1 g2 g3 g4) | (go_at_call 135; refine (plus_any ao' ao3 cap' c3 (0 :: S) L3 _ ((unhide E2).below hB1) (unhide G1) hlS l3).mono ?_; rintro e w4 ⟨ao4, c4, L4, rfl, g1, g2, g3, g4, hb1⟩; have hB2 : Below W0.heap.size W0 w4 := hB1.trans (hb1.mono hB1.size); have J1 := hide g1; have J3 := hide g3; have J4 := hide g4; clear hb1 g1 g2 g3 g4))
      obtain ⟨b5, o5, e5, hb5, hc5⟩ := (unhide J1).ne (by have := unhide J3; omega)
      subst e5
      have HST := hide (unhide HSTEP L3 L4 (unhide G4) (unhide J4))
      have hl4 : L4.length + 2 * k ≤ A.length + 1 + 2 * B.length := by
        have h1 := unhide J3; have h2 := unhide G3; have h3 := unhide HLEN
        simp only [List.length_cons] at h1
        omega
      clear hc5 HSTEP
      go_wp2
      go_roundw
      case rel => exact ⟨k, b5, o5, c4, L4, by omega, by go_num, rfl, unhide J1, (unhide Y0).below hB2 (unhide Y0).lt, (unhide Y1).below hB2 (unhide Y1).lt, (unhide Y2).below hB2 (unhide Y2).lt, hl4, unhide HST, (unhide B1).trans (hB2.mono (unhide B1).size)⟩
      case measure => simp [intOf]

end Go.Proofs.YtfnnbkclnflpfaaGreatDoor

