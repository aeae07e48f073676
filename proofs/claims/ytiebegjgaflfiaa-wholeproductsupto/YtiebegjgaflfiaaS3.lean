/- Contract of copied. -/
import Derived.Test.YtiebegjgaflfiaaR2
import Derived.Deep.AppendLies
namespace Go.Proofs.Ytiebegjgaflfiaa
open Go.RowKit
attribute [local go_sem ↓] Go.wp_at_zero Go.wp_at_succ

theorem own_empty (W : World) (base g : Nat) (hs : W.heap.size = g) (hb : base ≤ g) : ((W.alloc (.cells #[] 48)).drew).ownsRow base 48 1 (.slice (some ⟨g, 0, none⟩) 0 0) 0 [] := by
  subst hs
  exact World.ownsRow_made W #[] 0 hb (by simp [maxLen]) (by simp)

theorem own_mono {w : World} {base base' : Nat} {v : Value} {n : Nat} {xs : List Value} (h : w.ownsRow base 48 1 v n xs) (hb : base' ≤ base) : w.ownsRow base' 48 1 v n xs := by
  refine ⟨h.1, ?_⟩
  rcases h.2 with h1 | ⟨g, cap, cur, h1, h2, h3⟩
  · exact .inl h1
  · exact .inr ⟨g, cap, cur, h1, by omega, h3⟩

set_option maxHeartbeats 1000000 in
theorem copied_some (neg : Bool) (ao : Option Addr) (cap : Nat) (L : List Nat) (w : World) (h : LimbsAt w ao cap L) (hl : L.length ≤ 35184372088830) (h0 : L ≠ []) :
    Calls Try.prog 12 #[.agg #[.bool neg, .slice ao L.length cap]] w fun e w' => ∃ g c, e = .returned (.agg #[.bool neg, .slice (some ⟨g, 0, none⟩) L.length c]) ∧ w'.ownsRow w.heap.size 48 1 (.slice (some ⟨g, 0, none⟩) L.length c) L.length (L.map limbV) ∧ Below w.heap.size w w' := by
  obtain ⟨i0, hi, hz0, hz1, hz2⟩ := info_parts Try.info48
  have hp : 0 < L.length := List.length_pos_iff.2 h0
  obtain ⟨b, off, rfl, hb, hc⟩ := h.ne hp
  go_enter Try.func12, Try.ntmps12
  go_wp2
  refine at_world (fun W => Below w.heap.size w W ∧ W.heap.size = w.heap.size + 2 ∧ Box2 W w.heap.size (.bool neg) (.slice (some ⟨b, off, none⟩) L.length cap) ∧ Box2 W (w.heap.size + 1) (.bool false) (.slice none 0 0)) ?_ ?_
  · refine ⟨((Below.refl _ _).alloc (Nat.le_refl _) _).alloc (by simp) _, by simp, (Box2.new _ _ _).old _, ?_⟩
    have := Box2.new (w.alloc (.cells #[.bool neg, .slice (some ⟨b, off, none⟩) L.length cap] 24)) (.bool false) (.slice none 0 0)
    simpa using this
  rintro W0 ⟨hw0, hs0, x0, x1⟩
  have hK : ∀ w', Below (w.heap.size + 1) W0 w' → Below (w.heap.size + 1) W0 w' ∧ w'.cell? ⟨w.heap.size, 0, none⟩ = some (.bool neg) ∧ w'.cell? ⟨w.heap.size, 1, none⟩ = some (.slice (some ⟨b, off, none⟩) L.length cap) := fun w' h =>
    ⟨h, (x0.below h (by omega)).c0, (x0.below h (by omega)).c1⟩
  have hN : ∀ w', Below (w.heap.size + 1) W0 w' → ∀ j u, (L.map limbV)[j]? = some u → w'.cell? ((⟨b, off, none⟩ : Addr).add j) = some u := by
    intro w' hbw j u hu
    rw [List.getElem?_map] at hu
    have hj : j < L.length := by
      rcases Nat.lt_or_ge j L.length with e | e
      · exact e
      · rw [List.getElem?_eq_none e] at hu; simp at hu
    have e3 : (⟨b, off, none⟩ : Addr).add j = ⟨b, off + j, none⟩ := by simp [Addr.add]
    rw [e3, hbw.cell (p := ⟨b, off + j, none⟩) (by simp; omega), hw0.cell (p := ⟨b, off + j, none⟩) hb, hc j hj]
    rw [List.getElem?_eq_getElem hj] at hu ⊢
    simpa [limbV] using hu
  have HK := hide hK
  have HN := hide hN
  have HW0 := hide hw0
  have X1 := hide x1
  have hone : ∀ u ∈ L.map limbV, u.oneCell' = true := by
    intro u hu
    obtain ⟨y, _, rfl⟩ := List.mem_map.1 hu
    rfl
  have HONE := hide hone
  clear hK hN h x0 x1 hw0 hc hone
  go_region_held3 (fun w' => Below (w.heap.size + 1) W0 w' ∧ w'.cell? ⟨w.heap.size, 0, none⟩ = some (.bool neg) ∧ w'.cell? ⟨w.heap.size, 1, none⟩ = some (.slice (some ⟨b, off, none⟩) L.length cap))
    (first | exact unhide HK _ (Below.refl _ _).drew | exact unhide HK _ (((Below.refl _ _).alloc (by omega) _).drew) | exact unhide HK _ (by assumption) | exact unhide HK _ ((hB2.setCell (by simp) _).setCell (by simp) _))
    ((refine step_append_lies _ (by rfl) _ _ _ (by rfl) (w.heap.size + 2) 48 i0 (.int .u32 0) 1 4 Try.underlying22 hi hz0 hz1 hz2 rfl (by omega) (.slice (some ⟨w.heap.size + 2, 0, none⟩) 0 0) 0 [] (by rfl) (own_empty W0 (w.heap.size + 2) (w.heap.size + 2) hs0 (by omega)) ⟨b, off, none⟩ L.length cap (L.map limbV) (by rfl) (by simp) (unhide HN _ (((Below.refl _ _).alloc (by omega) _).drew)) (unhide HONE) hp (by unfold maxLen; omega) (by omega) (by simp [hs0]) (w.heap.size + 3) (by simp [hs0]) ?_; intro g cp w1 hown1 hgrow hat hlt; have hB2 : Below (w.heap.size + 1) W0 w1 := (((Below.refl _ _).alloc (by omega) _).drew).grown hgrow (by simp; omega) (fun k hk => by simp [Value.ownBlock] at hk; omega); have X2 : Box2 w1 (w.heap.size + 1) (.bool false) (.slice none 0 0) := ((hgrow.block (w.heap.size + 1) (by simp; omega) (by simp [Value.ownBlock])).trans (((unhide X1).old _).drew)); have y0 := X2.c0; have y1 := X2.c1; have f0 := X2.free 0; have f1 := X2.free 1; have OWN1 := hide hown1; clear hown1 hgrow hat X2))
  go_wp2
  refine bodyPost_ret (v := .agg #[.bool neg, .slice (some ⟨g, 0, none⟩) L.length cp]) (by simp [results, Try.results12, go_sem, y0, y1]) rfl ⟨g, cp, rfl, ?_, ?_⟩
  · have o1 := unhide OWN1
    simp only [Nat.zero_add, List.nil_append] at o1
    exact own_mono (ownsRow_setCell_below (ownsRow_setCell_below o1 (by simp) _) (by simp) _) (by omega)
  · exact (((unhide HW0).trans (hB2.mono (by omega))).setCell (by simp) _).setCell (by simp) _

set_option maxHeartbeats 1000000 in
theorem copied_none (neg : Bool) (ao : Option Addr) (cap : Nat) (w : World) :
    Calls Try.prog 12 #[.agg #[.bool neg, .slice ao 0 cap]] w fun e w' => ∃ g c, e = .returned (.agg #[.bool neg, .slice (some ⟨g, 0, none⟩) 0 c]) ∧ w'.ownsRow w.heap.size 48 1 (.slice (some ⟨g, 0, none⟩) 0 c) 0 [] ∧ Below w.heap.size w w' := by
  cases ao
  all_goals
    go_enter Try.func12, Try.ntmps12
    go_wp2
    go_region
    go_wp2
    refine bodyPost_ret (v := .agg #[.bool neg, .slice (some ⟨w.heap.size + 2, 0, none⟩) 0 0]) (by simp [results, Try.results12, go_sem]) rfl ⟨w.heap.size + 2, 0, rfl, ?_, ?_⟩
    · exact own_mono (own_empty _ (w.heap.size + 2) (w.heap.size + 2) (by simp) (by omega)) (by omega)
    · exact ((((Below.refl _ _).alloc (Nat.le_refl _) _).alloc (by simp) _).alloc (by simp; omega) _).drew

end Go.Proofs.Ytiebegjgaflfiaa
