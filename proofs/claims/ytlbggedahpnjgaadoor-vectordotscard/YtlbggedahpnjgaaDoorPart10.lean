/- Part 10 of the texts. -/
import Derived.Test.YtlbggedahpnjgaaDoorPart09
import Derived.Test.YtlbggedahpnjgaaDoorPart05
import Derived.RegionTactic
import Derived.BigRegion
import Derived.Deep.AppendLies
import Derived.Test.YtlbggedahpnjgaaDoorPart07
/- Contract of the reference's Half. -/
namespace Go.Proofs.YtlbggedahpnjgaaDoor
open Go.RowKit
attribute [local go_sem ↓] Go.wp_at_zero Go.wp_at_succ

end Go.Proofs.YtlbggedahpnjgaaDoor

/- Contract of told: where the answer is the document's, it says so. -/
namespace Go.Proofs.YtlbggedahpnjgaaDoor
open Go.RowKit

end Go.Proofs.YtlbggedahpnjgaaDoor

/- Contract of spoil: it writes into the one row that it is handed, and nowhere else. -/
namespace Go.Proofs.YtlbggedahpnjgaaDoor
open Go.RowKit

theorem bits_nat (a b : Int) : ∃ y : Nat, y < 4294967296 ∧ bits BinOp.xor IntKind.u32 a b = (y : Int) := by
  refine ⟨(bits BinOp.xor IntKind.u32 a b).toNat, ?_, ?_⟩
  all_goals
    have h : 0 ≤ bits BinOp.xor IntKind.u32 a b ∧ bits BinOp.xor IntKind.u32 a b < 4294967296 := by
      simp only [bits, IntKind.wrap, IntKind.signed, IntKind.bits]
      simp
      omega
    omega

end Go.Proofs.YtlbggedahpnjgaaDoor

/- Contract of copied. -/
namespace Go.Proofs.YtlbggedahpnjgaaDoor
open Go.RowKit
attribute [local go_sem ↓] Go.wp_at_zero Go.wp_at_succ

theorem own_empty (W : World) (base g : Nat) (hs : W.heap.size = g) (hb : base ≤ g) : ((W.alloc (.cells #[] 87)).drew).ownsRow base 87 1 (.slice (some ⟨g, 0, none⟩) 0 0) 0 [] := by
  subst hs
  exact World.ownsRow_made W #[] 0 hb (by simp [maxLen]) (by simp)

theorem own_mono {w : World} {base base' : Nat} {v : Value} {n : Nat} {xs : List Value} (h : w.ownsRow base 87 1 v n xs) (hb : base' ≤ base) : w.ownsRow base' 87 1 v n xs := by
  refine ⟨h.1, ?_⟩
  rcases h.2 with h1 | ⟨g, cap, cur, h1, h2, h3⟩
  · exact .inl h1
  · exact .inr ⟨g, cap, cur, h1, by omega, h3⟩

end Go.Proofs.YtlbggedahpnjgaaDoor

/- What stays where one row is written over; copied of any number. -/
namespace Go.Proofs.YtlbggedahpnjgaaDoor
open Go.RowKit

theorem own_below {w w' : World} {base : Nat} {v : Value} {n : Nat} {xs : List Value} (h : w.ownsRow base 87 1 v n xs) (hb : Below w.heap.size w w') : w'.ownsRow base 87 1 v n xs := by
  refine ⟨h.1, ?_⟩
  rcases h.2 with h1 | ⟨g, cap, cur, h1, h2, h3, h4⟩
  · exact .inl h1
  · exact .inr ⟨g, cap, cur, h1, h2, by rw [hb.block g (Array.getElem?_eq_some_iff.1 h3).1]; exact h3, h4⟩

theorem own_grown {w w' : World} {base k : Nat} {v : Value} {n : Nat} {xs : List Value} (h : w.ownsRow base 87 1 v n xs) (hg : w.grownBy w' (some k)) (hne : v.ownBlock ≠ some k) : w'.ownsRow base 87 1 v n xs := h.kept hg (.inr hne)

theorem Box2.grown {w w' : World} {b k : Nat} {x y : Value} (h : Box2 w b x y) (hg : w.grownBy w' (some k)) (hne : b ≠ k) : Box2 w' b x y := (hg.block b h.lt (by simpa using hne)).trans h

theorem LimbsAt.grown {w w' : World} {ao : Option Addr} {cap k : Nat} {L : List Nat} (h : LimbsAt w ao cap L) (hg : w.grownBy w' (some k)) (hne : ∀ b off, ao = some ⟨b, off, none⟩ → L ≠ [] → b ≠ k) : LimbsAt w' ao cap L := by
  refine ⟨h.1, h.2.1, ?_⟩
  rcases h.2.2 with h0 | ⟨b, off, h1, h2, h3⟩
  · exact .inl h0
  · by_cases he : L = []
    · exact .inl he
    · have hb := hg.block b h2 (by have := hne b off h1 he; simpa using this)
      refine .inr ⟨b, off, h1, Nat.lt_of_lt_of_le h2 hg.size, fun i hi => ?_⟩
      rw [World.cell?_of_block (a := ⟨b, off + i, none⟩) hb]
      exact h3 i hi

theorem IsNum.grown {w w' : World} {B k : Nat} {v : Value} {x : Int} (h : IsNum B w v x) (hg : w.grownBy w' (some k)) (hk : k < B) : IsNum B w' v x := by
  obtain ⟨neg, ao, cap, L, h1, h2, h3, h4⟩ := h
  refine ⟨neg, ao, cap, L, h1, h2.grown hg ?_, h3, h4⟩
  intro b off e he
  rcases h3 with h0 | ⟨b', off', e', hb'⟩
  · exact absurd h0 he
  · rw [e] at e'
    simp only [Option.some.injEq, Addr.mk.injEq] at e'
    omega

theorem below_grown {w w' : World} {k B : Nat} (hg : w.grownBy w' (some k)) (hk : B ≤ k) (hB : B ≤ w.heap.size) : Below B w w' := (Below.refl _ _).grown hg hB (fun j hj => by simp at hj; omega)

/-- A row of the call's own, as limbs. -/
theorem own_at {w : World} {base g n c : Nat} {S : List Nat} (h : w.ownsRow base 87 1 (.slice (some ⟨g, 0, none⟩) n c) n (S.map limbV)) (hf : Fits S) : LimbsAt w (some ⟨g, 0, none⟩) c S ∧ S.length = n ∧ base ≤ g ∧ g < w.heap.size := by
  obtain ⟨ao, cap, e1, e2, e3, e4⟩ := own_limbs h hf
  simp only [Value.slice.injEq] at e1
  obtain ⟨rfl, _, rfl⟩ := e1
  exact ⟨e2, e4, h.lt g rfl⟩

/-- What told is asked of an operation's answer. -/
theorem told_op (na : Bool) (A : List Nat) (nb : Bool) (B : List Nat) (z : Int) :
    (chk2 na A nb B ≠ 0 → opErr (rightB na A && rightB nb B) z = chk2 na A nb B ∧ opNum (rightB na A && rightB nb B) z = 0) ∧ (chk2 na A nb B = 0 → opErr (rightB na A && rightB nb B) z = errOf z ∧ opNum (rightB na A && rightB nb B) z = numOf z) := by
  cases h : (rightB na A && rightB nb B)
  · simp [chk2, h, opErr_false, opNum_false]
  · simp [chk2, h, opErr_true, opNum_true]

end Go.Proofs.YtlbggedahpnjgaaDoor

