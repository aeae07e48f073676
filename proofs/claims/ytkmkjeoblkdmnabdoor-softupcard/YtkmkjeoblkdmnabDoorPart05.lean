/- Part 5 of the texts. -/
import Derived.Test.YtkmkjeoblkdmnabDoorPart02
import Derived.Test.YtkmkjeoblkdmnabDoorPart01
import Derived.Test.YtkmkjeoblkdmnabDoorPart04
import Derived.Outline
import Derived.Deep.RegionWith
/- Numbers and stores elsewhere. -/
namespace Go.Proofs.YtkmkjeoblkdmnabDoor
open Go.RowKit

theorem cell_setCell_other (w : World) (a p : Addr) (u : Value) (h : a.block ≠ p.block) : (w.setCell p u).cell? a = w.cell? a :=
  World.cell?_of_block (Below.heap_setCell w p u a.block h)

theorem LimbsAt.store {w : World} {ao : Option Addr} {cap B : Nat} {L : List Nat} (h : LimbsAt w ao cap L) (hn : NewAt B ao L) {p : Addr} (hp : p.block < B) (u : Value) : LimbsAt (w.setCell p u) ao cap L := by
  refine ⟨h.1, h.2.1, ?_⟩
  rcases h.2.2 with h0 | ⟨b, off, h1, h2, h3⟩
  · exact .inl h0
  · rcases hn with h0 | ⟨b', off', h1', h2'⟩
    · exact .inl h0
    · rw [h1] at h1'
      simp only [Option.some.injEq, Addr.mk.injEq] at h1'
      obtain ⟨rfl, rfl, _⟩ := h1'
      refine .inr ⟨b, off, h1, by simpa [World.setCell] using h2, fun i hi => ?_⟩
      rw [cell_setCell_other w _ p u (by simp; omega)]
      exact h3 i hi

/-- What a function of one number answers through its result's box: the number, in the world behind the two stores. -/
theorem IsNum.stored {B B' : Nat} {w : World} {n : Bool} {ao : Option Addr} {cap : Nat} {L : List Nat} {x : Int} (h : LimbsAt w ao cap L ∧ NewAt B ao L ∧ Canon L ∧ n = decide (x < 0) ∧ val L = x.natAbs ∧ L.length ≤ 35184372088832) {p q : Addr} (hp : p.block < B) (hq : q.block < B) (hB : B' ≤ B) (u u' : Value) :
    IsNum B' ((w.setCell p u).setCell q u') (.agg #[.bool n, .slice ao L.length cap]) x :=
  ⟨n, ao, cap, L, rfl, (h.1.store h.2.1 hp u).store h.2.1 hq u', h.2.1.mono hB, h.2.2⟩

end Go.Proofs.YtkmkjeoblkdmnabDoor

/- Contracts of what makes rows of limbs: addLimbs. -/
namespace Go.Proofs.YtkmkjeoblkdmnabDoor
open Go.RowKit

theorem Tryd.info63 : (Tryd.prog.info? 63).map (fun i => (i.zero, i.size, i.bytes)) = some (some (.int .u32 0), 1, 4) := by kernel_rfl

theorem int_eq {k : IntKind} {a b : Int} (h : a = b) : Value.int k a = .int k b := by rw [h]

/-- limbAt, what it finds under a name. -/
theorem limbAt_x (ao : Option Addr) (cap : Nat) (L : List Nat) (i : Int) (k x : Nat) (w : World) (h : LimbsAt w ao cap L) (hl : L.length ≤ 35184372088830) (hk : i = (k : Int)) (hx : Hid (L[k]?.getD 0 = x)) :
    Calls Tryd.prog 39 #[.slice ao L.length cap, .int .i64 i] w fun e w' => e = .returned (.int .u64 (x : Int)) ∧ w = w' := by
  have := limbAt_any ao cap L i k w h hl hk
  rwa [hx.out] at this

end Go.Proofs.YtkmkjeoblkdmnabDoor

/- Contracts of the reference's More, Made. -/
namespace Go.Proofs.YtkmkjeoblkdmnabDoor
open Go.RowKit

/-- As IsNum, of at most M limbs. -/
def IsNumM (M B : Nat) (w : World) (v : Value) (x : Int) : Prop :=
  ∃ neg ao cap L, v = .agg #[.bool neg, .slice ao L.length cap] ∧ LimbsAt w ao cap L ∧ NewAt B ao L ∧ Canon L ∧ neg = decide (x < 0) ∧ val L = x.natAbs ∧ L.length ≤ M
theorem IsNumM.num {M B : Nat} {w : World} {v : Value} {x : Int} (h : IsNumM M B w v x) (hM : M ≤ 35184372088832) : IsNum B w v x := by
  obtain ⟨neg, ao, cap, L, h1, h2, h3, h4, h5, h6, h7⟩ := h
  exact ⟨neg, ao, cap, L, h1, h2, h3, h4, h5, h6, by omega⟩
theorem IsNumM.below {M B : Nat} {w w' : World} {v : Value} {x : Int} (h : IsNumM M B w v x) (hb : Below w.heap.size w w') : IsNumM M B w' v x := by
  obtain ⟨neg, ao, cap, L, h1, h2, h3⟩ := h
  exact ⟨neg, ao, cap, L, h1, h2.below hb, h3⟩
theorem IsNumM.more {M M' B : Nat} {w : World} {v : Value} {x : Int} (h : IsNumM M B w v x) (hM : M ≤ M') : IsNumM M' B w v x := by
  obtain ⟨neg, ao, cap, L, h1, h2, h3, h4, h5, h6, h7⟩ := h
  exact ⟨neg, ao, cap, L, h1, h2, h3, h4, h5, h6, by omega⟩
theorem IsNumM.zero (M B : Nat) (w : World) (ao : Option Addr) (cap : Nat) : IsNumM M B w (.agg #[.bool false, .slice ao 0 cap]) 0 :=
  ⟨false, ao, cap, [], rfl, LimbsAt.nil _ _ _, .inl rfl, .inl rfl, rfl, rfl, by simp⟩
theorem sval_IsNum {n : Bool} {L : List Nat} {x : Int} (h : n = decide (x < 0)) (hv : val L = x.natAbs) : sval n L = x := by
  unfold sval
  rw [h]
  by_cases hx0 : x < 0
  · simp [hx0]; omega
  · simp [hx0]; omega
/-- A number of at most M limbs, in the world behind the two stores into the result's box. -/
theorem IsNumM.stored {M B B' : Nat} {w : World} {n : Bool} {ao : Option Addr} {cap : Nat} {L : List Nat} {x : Int} (h : LimbsAt w ao cap L ∧ NewAt B ao L ∧ Canon L ∧ n = decide (x < 0) ∧ val L = x.natAbs ∧ L.length ≤ M) {p q : Addr} (hp : p.block < B) (hq : q.block < B) (hB : B' ≤ B) (u u' : Value) :
    IsNumM M B' ((w.setCell p u).setCell q u') (.agg #[.bool n, .slice ao L.length cap]) x :=
  ⟨n, ao, cap, L, rfl, (h.1.store h.2.1 hp u).store h.2.1 hq u', h.2.1.mono hB, h.2.2⟩

end Go.Proofs.YtkmkjeoblkdmnabDoor

/- Contracts of the reference's plus, minus. -/
namespace Go.Proofs.YtkmkjeoblkdmnabDoor
open Go.RowKit

/-- What the call itself has gathered by append, as limbs. -/
theorem own_limbs {w : World} {base : Nat} {v : Value} {n : Nat} {S : List Nat} (h : w.ownsRow base 63 1 v n (S.map limbV)) (hf : Fits S) :
    ∃ ao cap, v = .slice ao S.length cap ∧ LimbsAt w ao cap S ∧ NewAt base ao S ∧ S.length = n := by
  have hl : S.length = n := by have := h.1; simpa using this
  rcases h.2 with ⟨hv, h0⟩ | ⟨g, cap, cur, hv, hg, hh, hc, hm, hs, ht⟩
  · have : S = [] := List.length_eq_zero_iff.1 (by omega)
    subst this
    exact ⟨none, 0, hv, LimbsAt.nil _ _ _, .inl rfl, hl⟩
  · refine ⟨some ⟨g, 0, none⟩, cap, by rw [hl]; exact hv, ⟨by omega, hf, .inr ⟨g, 0, rfl, (Array.getElem?_eq_some_iff.1 hh).1, fun i hi => ?_⟩⟩, .inr ⟨g, 0, rfl, hg⟩, hl⟩
    have hv' := h
    rw [hv] at hv'
    rw [Nat.zero_add, hv'.cellAt i (by omega)]
    simp [limbV, hi]

theorem own_snoc {w : World} {base : Nat} {v : Value} {n : Nat} {S : List Nat} {x : Nat} {d : Int} (h : w.ownsRow base 63 1 v (n + 1) (S.map limbV ++ [.int .u32 d])) (hd : d = (x : Int)) : w.ownsRow base 63 1 v (n + 1) ((S ++ [x]).map limbV) := by
  subst hd
  simpa [limbV] using h

end Go.Proofs.YtkmkjeoblkdmnabDoor

/- Contract of the reference's minus. -/
namespace Go.Proofs.YtkmkjeoblkdmnabDoor
open Go.RowKit

end Go.Proofs.YtkmkjeoblkdmnabDoor

