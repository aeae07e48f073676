/- Contract of the reference's Shift. -/
import Derived.Test.YtiebegjgaflfiaaT3
import Derived.Deep.RegionLaw
namespace Go.Proofs.Ytiebegjgaflfiaa
open Go.RowKit
attribute [local go_sem ↓] Go.wp_at_zero Go.wp_at_succ

theorem own_one (W : World) (base g : Nat) (hs : W.heap.size = g) (hb : base ≤ g) : ((W.alloc (.cells #[.int .u32 0] 48)).drew).ownsRow base 48 1 (.slice (some ⟨g, 0, none⟩) 1 1) 1 [.int .u32 0] := by
  subst hs
  exact ⟨by simp, .inr ⟨W.heap.size, 1, #[.int .u32 0], rfl, hb, heap_alloc_new W _, Nat.le_refl _, by simp [maxLen], by simp, by simp⟩⟩

theorem made_own (neg : Bool) (g n c base : Nat) (S : List Nat) (w : World) (h : w.ownsRow base 48 1 (.slice (some ⟨g, 0, none⟩) n c) n (S.map limbV)) (hf : Fits S) (hl : n ≤ 35184372088832) :
    Calls Try.prog 35 #[.bool neg, .slice (some ⟨g, 0, none⟩) n c] w fun e w' => ∃ v, e = .returned v ∧ IsNumM n base w' v (sval neg S) ∧ Below w.heap.size w w' := by
  obtain ⟨h1, h2, h3, h4⟩ := own_at h hf
  have := made_any base neg (some ⟨g, 0, none⟩) c S w h1 (.inr ⟨g, 0, rfl, h3⟩) (by omega)
  rw [h2] at this
  exact this

theorem ne_of_val {L : List Nat} (h : val L ≠ 0) : L ≠ [] := by
  rintro rfl
  simp [val] at h

set_option maxHeartbeats 4000000 in
theorem refShift_some (na : Bool) (ao : Option Addr) (ca : Nat) (A : List Nat) (n : Int) (w : World) (hA : LimbsAt w ao ca A) (h0 : A ≠ []) (hc : Canon A) (la : A.length ≤ 3000) (hn : -16384 ≤ n ∧ n ≤ 16384) :
    Calls Try.prog 25 #[.agg #[.bool na, .slice ao A.length ca], .int .i64 n] w fun e w' => ∃ v, e = .returned v ∧ IsNum 0 w' v (shV na A n) ∧ Below w.heap.size w w' := by
  obtain ⟨i0, hi, hz0, hz1, hz2⟩ := info_parts Try.info48
  have HZ := hide (shV_shF na A n).symm
  generalize shV na A n = z at *
  have HH0 := hide h0; have HC := hide hc
  clear h0 hc
  go_enter Try.func25, Try.ntmps25
  go_wp2
  go_loopw [1] (fun i wr => ∃ (m : Int) (nn : Bool) (a : Option Addr) (c : Nat) (L : List Nat), i = .int .i64 m ∧ -16384 ≤ m ∧ m ≤ 16384 ∧ L ≠ [] ∧ Hid (ShI w wr z m nn a c L)) (fun i _ => (intOf i).toNat)
  case atStart =>
    refine ⟨n, na, ao, ca, A, rfl, hn.1, hn.2, unhide HH0, (Box2.new _ _ _).old _, ?_, hA.below (((Below.refl _ _).alloc (Nat.le_refl _) _).alloc (by simp) _), unhide HC, fun _ => unhide HH0, by omega, unhide HZ, ((Below.refl _ _).alloc (Nat.le_refl _) _).alloc (by simp) _⟩
    have := Box2.new (w.alloc (.cells #[.bool na, .slice ao A.length ca] 24)) (.bool false) (.slice none 0 0)
    simpa using this
  case round =>
    obtain ⟨m, nn, a, c, L, rfl, hm1, hm2, hne, hI⟩ := hrel
    clear HZ HC HH0 hA la hn
    obtain ⟨x0, x1, hL, hC, hS, hlen, hz, hbel⟩ := unhide hI
    have hp : 0 < L.length := List.length_pos_iff.2 hne
    have hpI : (0 : Int) < (L.length : Int) := by omega
    have p0 := x0.c0; have p1 := x0.c1
    have HV : Hid (val L ≠ 0) := fun e => hne ((val_zero_of_canon L hC).1 e)
    by_cases hg : 32 ≤ m
    · obtain ⟨b, off, rfl, hb, hcl⟩ := hL.ne hp
      have hz' := hz
      rw [← shF_up32 _ _ hg] at hz'
      have HZ2 := hide hz'
      have zlt := x0.lt
      have zlt1 := x1.lt
      have hN : ∀ j u, (L.map limbV)[j]? = some u → ((wr.alloc (.cells #[.int .u32 0] 48)).drew).cell? ((⟨b, off, none⟩ : Addr).add j) = some u := by
        intro j u hu
        rw [List.getElem?_map] at hu
        have hj : j < L.length := by
          rcases Nat.lt_or_ge j L.length with e | e
          · exact e
          · rw [List.getElem?_eq_none e] at hu; simp at hu
        have e3 : (⟨b, off, none⟩ : Addr).add j = ⟨b, off + j, none⟩ := by simp [Addr.add]
        rw [e3, ((((Below.refl wr.heap.size wr).alloc (Nat.le_refl _) _).drew).cell (p := ⟨b, off + j, none⟩) hb), hcl j hj]
        rw [List.getElem?_eq_getElem hj] at hu ⊢
        simpa [limbV] using hu
      have hone : ∀ u ∈ L.map limbV, u.oneCell' = true := by
        intro u hu
        obtain ⟨y, _, rfl⟩ := List.mem_map.1 hu
        rfl
      have HF : Hid (Fits (0 :: L)) := by
        intro y hy
        rcases List.mem_cons.1 hy with rfl | hy
        · decide
        · exact hL.2.1 y hy
      have HN := hide hN; have HONE := hide hone; have BEL := hide hbel; have X0 := hide x0; have X1 := hide x1; have HLEN := hide hlen
      clear hz hz' hN hone x0 x1 hL hC hS hbel hI hcl
      have ll : L.length ≤ 20000 := by have := unhide HLEN; omega
      clear hlen
      go_wp2
      go_region_law (first | (refine step_append_lies _ (by rfl) _ _ _ (by rfl) wr.heap.size 48 i0 (.int .u32 0) 1 4 Try.underlying22 hi hz0 hz1 hz2 rfl (by omega) (.slice (some ⟨wr.heap.size, 0, none⟩) 1 1) 1 [.int .u32 0] (by rfl) (own_one wr wr.heap.size wr.heap.size rfl (Nat.le_refl _)) ⟨b, off, none⟩ L.length c (L.map limbV) (by rfl) (by simp) (unhide HN) (unhide HONE) hp (by unfold maxLen; omega) (by omega) (by simp) (wr.heap.size + 1) (by simp) ?_; intro g cp w1 hown1 hgrow hat hlt; have y0 : Box2 w1 w.heap.size (.bool nn) (.slice (some ⟨b, off, none⟩) L.length c) := (hgrow.block w.heap.size (by simp; omega) (by simp [Value.ownBlock]; omega)).trans (((unhide X0).old _).drew); have y1 : Box2 w1 (w.heap.size + 1) (.bool false) (.slice none 0 0) := (hgrow.block (w.heap.size + 1) (by simp; omega) (by simp [Value.ownBlock]; omega)).trans (((unhide X1).old _).drew); have q0 := y0.c0; have q1 := y0.c1; have Y0 := hide y0; have Y1 := hide y1; have B1 := hide ((((unhide BEL).alloc (by omega) _).drew).grown hgrow (by simp; omega) (fun k hk => by simp [Value.ownBlock] at hk; omega)); have OWN1 := hide hown1; clear hown1 hgrow hat y0 y1) | (go_simp; go_at_call 35; refine (made_own nn g (1 + L.length) cp _ (0 :: L) _ (unhide OWN1) (unhide HF) (by omega)).mono ?_; rintro e w2 ⟨v, rfl, ⟨n2, a2, c2, L2, rfl, i1⟩, hb2⟩; have I1 := hide i1; have Z0 := (unhide Y0).below hb2 (unhide Y0).lt; have Z1 := (unhide Y1).below hb2 (unhide Y1).lt; have r0 := Z0.c0; have r1 := Z0.c1; have f0 := Z0.free 0; have f1 := Z0.free 1; have B2 := hide ((unhide B1).trans (hb2.mono (unhide B1).size)); have ZZ0 := hide Z0; have ZZ1 := hide Z1; clear i1 hb2 Z0 Z1))
      all_goals
        go_wp2
        go_roundw
        case rel =>
          refine ⟨m - 32, n2, a2, c2, L2, by go_num, by omega, by omega, ne_of_val ?_, ShI.step (v := 4294967296 * val L) (unhide ZZ0) (unhide ZZ1) (unhide I1) (by rw [sval_sg, zero_limbs]) (unhide HZ2) (by have := unhide HLEN; omega) (unhide B2)⟩
          have h5 := (unhide I1).2.2.2.2.1
          rw [natAbs_sval, zero_limbs] at h5
          have := unhide HV
          omega
        case measure => simp [intOf]; omega
    · have HI := hI
      have hgI : ¬ (32 : Int) ≤ m := by omega
      clear hI x0 x1 hL hC hS hlen hz hbel
      go_wp2
      go_loopw [1] (fun i wr => ∃ (m : Int) (nn : Bool) (a : Option Addr) (c : Nat) (L : List Nat), i = .int .i64 m ∧ -16384 ≤ m ∧ m ≤ 31 ∧ L ≠ [] ∧ Hid (ShI w wr z m nn a c L)) (fun i _ => (intOf i).toNat)
      case atStart => exact ⟨m, nn, a, c, L, rfl, by omega, by omega, hne, HI⟩
      case round =>
        clear HI HV p0 p1 hpI hp hne hgI hg hm1 hm2
        obtain ⟨m, nn, a, c, L, rfl, hm1, hm2, hne, hI⟩ := hrel
        obtain ⟨x0, x1, hL, hC, hS, hlen, hz, hbel⟩ := unhide hI
        have hp : 0 < L.length := List.length_pos_iff.2 hne
        have hpI : (0 : Int) < (L.length : Int) := by omega
        have p0 := x0.c0; have p1 := x0.c1
        by_cases hg : 0 < m
        · have HV : Hid (val L ≠ 0) := fun e => hne ((val_zero_of_canon L hC).1 e)
          have hz' := hz
          rw [← shF_up1 _ _ (by omega)] at hz'
          have HZ2 := hide hz'
          have BEL := hide hbel; have X0 := hide x0; have X1 := hide x1; have HLEN := hide hlen; have HLL := hide hL
          clear hz hz' x0 x1 hL hC hS hbel hI hlen
          go_wp2_with fail
          refine (double_any nn a c L wr (unhide HLL) (by have := unhide HLEN; omega)).mono ?_
          rintro e w2 ⟨v, rfl, ⟨n2, a2, c2, L2, rfl, i1⟩, hb2⟩
          have I1 := hide i1
          have Z0 := (unhide X0).below hb2 (unhide X0).lt
          have Z1 := (unhide X1).below hb2 (unhide X1).lt
          have r0 := Z0.c0; have r1 := Z0.c1; have f0 := Z0.free 0; have f1 := Z0.free 1
          have B2 := hide ((unhide BEL).trans (hb2.mono (unhide BEL).size))
          have ZZ0 := hide Z0; have ZZ1 := hide Z1
          clear i1 hb2 Z0 Z1
          go_wp2
          go_roundw
          case rel =>
            refine ⟨m - 1, n2, a2, c2, L2, by go_num, by omega, by omega, ne_of_val ?_, ShI.step (v := val L + val L) (unhide ZZ0) (unhide ZZ1) (unhide I1) rfl (unhide HZ2) (by have := unhide HLEN; omega) (unhide B2)⟩
            have h5 := (unhide I1).2.2.2.2.1
            rw [natAbs_sg] at h5
            have := unhide HV
            omega
          case measure => simp [intOf]; omega
        · have HI := hI
          clear hI x0 x1 hL hC hS hlen hz hbel
          go_wp2
          go_loopw [1] (fun i wr => ∃ (m : Int) (nn : Bool) (a : Option Addr) (c : Nat) (L : List Nat), i = .int .i64 m ∧ -16384 ≤ m ∧ m ≤ 0 ∧ Hid (ShI w wr z m nn a c L)) (fun i _ => (-(intOf i)).toNat)
          case atStart => exact ⟨m, nn, a, c, L, rfl, by omega, by omega, HI⟩
          case round =>
            clear HI p0 p1 hpI hp hne hg hm1 hm2
            obtain ⟨m, nn, a, c, L, rfl, hm1, hm2, hI⟩ := hrel
            obtain ⟨x0, x1, hL, hC, hS, hlen, hz, hbel⟩ := unhide hI
            have p0 := x0.c0; have p1 := x0.c1
            by_cases hgp : m ≤ -32 ∧ 0 < L.length
            · obtain ⟨hg, hp⟩ := hgp
              · have hpI : (0 : Int) < (L.length : Int) := by omega
                have hcap := hL.1
                obtain ⟨b, off, rfl, hb, hcl⟩ := hL.ne hp
                have hz' := hz
                rw [← shF_dn32 _ _ hg] at hz'
                have HZ2 := hide hz'
                have BEL := hide hbel; have X0 := hide x0; have X1 := hide x1; have HLEN := hide hlen; have HLL := hide (hL.below ((Below.refl _ _).drew))
                clear hz hz' x0 x1 hL hC hS hbel hI hlen hcl
                go_wp2
                have h1I : (1 : Int) ≤ (L.length : Int) := by omega
                have h2I : (L.length : Int) ≤ (c : Int) := by omega
                have h3I : (1 : Int) ≤ (c : Int) := by omega
                by_cases hc1 : c = 1
                · subst hc1
                  go_region_with (go_at_call 35; refine (made_drop1 nn b off L _ (unhide HLL)).mono ?_; rintro e w2 ⟨v, rfl, ⟨n2, a2, c2, L2, rfl, i1⟩, hb2⟩; have I1 := hide i1; have Z0 := (unhide X0).drew.below hb2 (unhide X0).drew.lt; have Z1 := (unhide X1).drew.below hb2 (unhide X1).drew.lt; have r0 := Z0.c0; have r1 := Z0.c1; have f0 := Z0.free 0; have f1 := Z0.free 1; have B2 := hide (((unhide BEL).drew).trans (hb2.mono ((unhide BEL).drew).size)); have ZZ0 := hide Z0; have ZZ1 := hide Z1; clear i1 hb2 Z0 Z1)
                  all_goals
                    go_wp2
                    go_roundw
                    case rel => exact ⟨m + 32, n2, a2, c2, L2, by go_num, by omega, by omega, ShI.step (v := val L / 4294967296) (unhide ZZ0) (unhide ZZ1) (unhide I1) rfl (unhide HZ2) (by have := unhide HLEN; omega) (unhide B2)⟩
                    case measure => simp [intOf]; omega
                · have hc1I : ¬ (c : Int) = 1 := by omega
                  go_region_with (go_at_call 35; refine (made_drop nn b off c L _ (unhide HLL) (by have := unhide HLEN; omega)).mono ?_; rintro e w2 ⟨v, rfl, ⟨n2, a2, c2, L2, rfl, i1⟩, hb2⟩; have I1 := hide i1; have Z0 := (unhide X0).drew.below hb2 (unhide X0).drew.lt; have Z1 := (unhide X1).drew.below hb2 (unhide X1).drew.lt; have r0 := Z0.c0; have r1 := Z0.c1; have f0 := Z0.free 0; have f1 := Z0.free 1; have B2 := hide (((unhide BEL).drew).trans (hb2.mono ((unhide BEL).drew).size)); have ZZ0 := hide Z0; have ZZ1 := hide Z1; clear i1 hb2 Z0 Z1)
                  all_goals
                    go_wp2
                    go_roundw
                    case rel => exact ⟨m + 32, n2, a2, c2, L2, by go_num, by omega, by omega, ShI.step (v := val L / 4294967296) (unhide ZZ0) (unhide ZZ1) (unhide I1) rfl (unhide HZ2) (by have := unhide HLEN; omega) (unhide B2)⟩
                    case measure => simp [intOf]; omega
            · have HI := hI
              rcases (show (m ≤ -32 ∧ ¬ (0 : Int) < (L.length : Int)) ∨ ¬ m ≤ -32 by omega) with ⟨hg, hp⟩ | hg
              all_goals
                clear hI x0 x1 hL hC hS hlen hz hbel hgp
                go_wp2
                go_loopw [1] (fun i wr => ∃ (m : Int) (nn : Bool) (a : Option Addr) (c : Nat) (L : List Nat), i = .int .i64 m ∧ -16384 ≤ m ∧ m ≤ 0 ∧ Hid (ShI w wr z m nn a c L)) (fun i _ => (-(intOf i)).toNat)
                case atStart => exact ⟨m, nn, a, c, L, rfl, by omega, by omega, HI⟩
                case round =>
                  clear HI p0 p1 hg hm1 hm2
                  obtain ⟨m, nn, a, c, L, rfl, hm1, hm2, hI⟩ := hrel
                  obtain ⟨x0, x1, hL, hC, hS, hlen, hz, hbel⟩ := unhide hI
                  have p0 := x0.c0; have p1 := x0.c1
                  by_cases hgq : m < 0 ∧ 0 < L.length
                  · obtain ⟨hg, hp⟩ := hgq
                    have hpI : (0 : Int) < (L.length : Int) := by omega
                    have hz' := hz
                    rw [← shF_dn1 _ _ (by omega)] at hz'
                    have HZ2 := hide hz'
                    have BEL := hide hbel; have X0 := hide x0; have X1 := hide x1; have HLEN := hide hlen; have HLL := hide hL
                    clear hz hz' x0 x1 hL hC hS hbel hI hlen
                    go_wp2_with fail
                    refine (half_any nn a c L wr (unhide HLL) (by have := unhide HLEN; omega)).mono ?_
                    rintro e w2 ⟨v, rfl, ⟨n2, a2, c2, L2, rfl, i1⟩, hb2⟩
                    have I1 := hide i1
                    have Z0 := (unhide X0).below hb2 (unhide X0).lt
                    have Z1 := (unhide X1).below hb2 (unhide X1).lt
                    have r0 := Z0.c0; have r1 := Z0.c1; have f0 := Z0.free 0; have f1 := Z0.free 1
                    have B2 := hide ((unhide BEL).trans (hb2.mono (unhide BEL).size))
                    have ZZ0 := hide Z0; have ZZ1 := hide Z1
                    clear i1 hb2 Z0 Z1
                    go_wp2
                    go_roundw
                    case rel => exact ⟨m + 1, n2, a2, c2, L2, by go_num, by omega, by omega, ShI.step (v := val L / 2) (unhide ZZ0) (unhide ZZ1) (unhide I1) rfl (unhide HZ2) (by have := unhide HLEN; omega) (unhide B2)⟩
                    case measure => simp [intOf]; omega
                  · have hlast := hI.out.last (by rcases Nat.eq_zero_or_pos L.length with e | e; (right; exact List.length_eq_zero_iff.1 e); (left; omega))
                    have HLA := hide hlast
                    have X1 := hide x1; have BEL := hide hbel; have HLL := hide hL
                    have y0 := x1.c0; have y1 := x1.c1; have f0 := x1.free 0; have f1 := x1.free 1
                    rcases (show (m < 0 ∧ ¬ (0 : Int) < (L.length : Int)) ∨ ¬ m < 0 by omega) with ⟨hg, hp⟩ | hg
                    all_goals
                      clear hI x0 x1 hL hC hS hlen hz hbel hgq hlast
                      go_wp2
                      refine bodyPost_ret (v := .agg #[.bool nn, .slice a L.length c]) (by simp [results, Try.results25, go_sem, y0, y1]) rfl ⟨.agg #[.bool nn, .slice a L.length c], rfl, ?_, ?_⟩
                      · obtain ⟨neg, a', c', L', e1, e2, e3⟩ := unhide HLA
                        refine ⟨neg, a', c', L', e1, e2.box (unhide X1) _ _, e3⟩
                      · exact ((unhide BEL).setCell (by simp) _).setCell (by simp) _

end Go.Proofs.Ytiebegjgaflfiaa
