/- Part 12 of the texts. -/
import Derived.Test.YtnpogpoknbgodaaPart07
import Derived.Test.YtnpogpoknbgodaaPart06
import Derived.Test.YtnpogpoknbgodaaPart04
import Derived.RegionTactic
import Derived.BigRegion
import Derived.Deep.AppendLies
import Derived.Test.YtnpogpoknbgodaaPart08
/- Contract of the reference's single: limbs times one limb. -/
namespace Go.Proofs.Ytnpogpoknbgodaa
open Go.RowKit

theorem single_step (A S : List Nat) (x c y : Nat) (hy : A[S.length]?.getD 0 = y) (h : val S + 4294967296 ^ S.length * c = val (A.take S.length) * x) :
    val (S ++ [(y * x + c) % 4294967296]) + 4294967296 ^ (S.length + 1) * ((y * x + c) / 4294967296) = val (A.take (S.length + 1)) * x := by
  rw [val_snoc, val_take_succ A, hy, Nat.add_mul]
  have e := pow_step (4294967296 ^ S.length) 4294967296 (y * x + c)
  rw [Nat.pow_succ]
  rw [Nat.mul_add, ← Nat.mul_assoc] at e
  omega

theorem single_casts (x y c : Nat) : (((y * x + c) % 4294967296 : Nat) : Int) = ((y : Int) * (x : Int) + (c : Int)) % 4294967296 ∧ (((y * x + c) / 4294967296 : Nat) : Int) = ((y : Int) * (x : Int) + (c : Int)) / 4294967296 := by
  have e : ((y * x : Nat) : Int) = (y : Int) * (x : Int) := Int.natCast_mul y x
  rw [← e]
  omega

set_option maxHeartbeats 400000 in
theorem single_any (ao : Option Addr) (ca : Nat) (A : List Nat) (x : Nat) (w : World) (hA : LimbsAt w ao ca A) (bx : x < 4294967296) (la : A.length ≤ 1073741824) :
    Calls Try.prog 29 #[.slice ao A.length ca, .int .u32 (x : Int)] w fun e w' => ∃ ao' cap' L', e = .returned (.slice ao' L'.length cap') ∧ LimbsAt w' ao' cap' L' ∧ NewAt w.heap.size ao' L' ∧ L'.length = A.length + 1 ∧ val L' = val A * x ∧ Below w.heap.size w w' := by
  obtain ⟨i0, hi, hz0, hz1, hz2⟩ := info_parts Try.info60
  have hst := fun (S : List Nat) (c y : Nat) => single_step A S x c y
  have hen : ∀ (S : List Nat) (c : Nat), S.length = A.length → val S + 4294967296 ^ S.length * c = val (A.take S.length) * x → val (S ++ [c]) = val A * x := by
    intro S c hl h
    rw [val_snoc, h, hl, List.take_length]
  have HST := hide hst
  have HEN := hide hen
  clear hst hen
  go_enter Try.func29, Try.ntmps29
  go_wp2
  go_loopw [5, 6, 7, 8] (fun v c i _ wr => ∃ (S : List Nat) (y : Nat), S.length ≤ A.length ∧ i = .int .i64 (S.length : Nat) ∧ c = .int .u64 y ∧ y < 4294967296 ∧ wr.ownsRow w.heap.size 60 1 v S.length (S.map limbV) ∧ Fits S ∧ Below w.heap.size w wr ∧ Hid (val S + 4294967296 ^ S.length * y = val (A.take S.length) * x))
    (fun _ _ i _ _ => A.length - (intOf i).toNat)
  case atStart =>
    refine ⟨[], 0, by simp, rfl, rfl, by omega, ?_, by intro x hx; simp at hx, (Below.refl _ _).alloc (Nat.le_refl _) _, by unfold Hid; simp [val]⟩
    exact World.ownsRow_made w #[] 0 (Nat.le_refl _) (by simp [maxLen]) (by simp)
  case round =>
    obtain ⟨S, y, hk, rfl, rfl, hy, hown, hf, hbel, hv⟩ := hrel
    by_cases hlt : S.length < A.length
    · obtain ⟨z, hz⟩ : ∃ z, A[S.length]?.getD 0 = z := ⟨_, rfl⟩
      have bz : z < 4294967296 := by rw [← hz]; exact hA.lt _
      obtain ⟨b1, o1, hao, hb1', hc1⟩ := hA.ne (by omega)
      have ca1 := hc1 S.length hlt
      rw [hz] at ca1
      have dA : wr.cell? ⟨b1, o1 + S.length, none⟩ = some (.int .u32 (z : Int)) := by rw [hbel.cell (p := ⟨b1, o1 + S.length, none⟩) hb1']; exact ca1
      have HS2 := hide (unhide HST S y z hz hv.out)
      have hzx := mul_lt z x bz bx
      obtain ⟨hzxI, hzx0⟩ := mul_ltI z x bz bx
      obtain ⟨ec, ed⟩ := single_casts x z y
      have by' : (z * x + y) / 4294967296 < 4294967296 := by omega
      have EC := hide ec; have ED := hide ed; have BY := hide by'
      have hsz := hbel.size
      have HF := hide hf
      clear hz hv HST HEN hf hc1 ca1 ec ed by' hzx
      subst hao
      generalize hSl : S.length = k at *
      have HSL := hide hSl
      clear hSl
      have hki : (k : Int) < (A.length : Int) := by omega
      go_wp2_with (at_builtin; refine wpList_append_own _ rfl _ _ 33 rfl w.heap.size 60 i0 (.int .u32 0) 1 4 Try.underlying33 hi hz0 hz1 hz2 rfl (by decide) _ _ _ rfl (hown.alloc _) ⟨wr.heap.size, 0, none⟩ 1 1 [.int .u32 (((z : Int) * (x : Int) + (y : Int)) % 4294967296)] rfl rfl (cell_one_new _ _ _) (fun u hu => by simp at hu; subst hu; rfl) (by unfold maxLen; omega) (by omega) (by simp; omega) ?_; intro v' w1 hown' hgrow _; have hbl : Below w.heap.size w w1 := ((hbel.alloc hsz _).grown hgrow (by simp; omega) (fun g hg => (hown.lt g hg).1)); have ho2 := hide (own_snoc (x := (z * x + y) % 4294967296) hown' (unhide EC).symm); clear hown' hgrow)
      have hS2 := unhide HS2
      have hl2 : (S ++ [(z * x + y) % 4294967296]).length = k + 1 := by simp [unhide HSL]
      go_roundw
      case rel => exact ⟨S ++ [(z * x + y) % 4294967296], (z * x + y) / 4294967296, by omega, by rw [hl2]; go_num, int_eq (unhide ED).symm, unhide BY, by rw [hl2]; exact unhide ho2, (unhide HF).snoc (Nat.mod_lt _ (by decide)), hbl, by rw [hl2]; exact hS2⟩
      case measure => simp [intOf]; omega
    · have hsl : S.length = A.length := by omega
      have hend := unhide HEN S y hsl hv.out
      have HEND := hide hend
      have HSL := hide hsl
      have hsz := hbel.size
      have HF := hide (hf.snoc hy)
      clear hend hv HST HEN hf hsl
      have hki : ¬ ((S.length : Nat) : Int) < (A.length : Int) := by omega
      go_wp2_with (at_builtin; refine wpList_append_own _ rfl _ _ 33 rfl w.heap.size 60 i0 (.int .u32 0) 1 4 Try.underlying33 hi hz0 hz1 hz2 rfl (by decide) _ _ _ rfl (hown.alloc _) ⟨wr.heap.size, 0, none⟩ 1 1 [.int .u32 (y : Int)] rfl rfl (cell_one_new _ _ _) (fun u hu => by simp at hu; subst hu; rfl) (by unfold maxLen; omega) (by omega) (by simp; omega) ?_; intro v' w1 hown' hgrow _; have hbl : Below w.heap.size w w1 := ((hbel.alloc hsz _).grown hgrow (by simp; omega) (fun g hg => (hown.lt g hg).1)); have ho2 := hide (own_snoc (x := y) hown' rfl); clear hown' hgrow)
      obtain ⟨ao', cap', e1, e2, e3, e4⟩ := own_limbs (unhide ho2) (unhide HF)
      subst e1
      go_ret
      exact ⟨ao', cap', S ++ [y], rfl, e2, e3, by have := unhide HSL; simp; omega, unhide HEND, hbl⟩

end Go.Proofs.Ytnpogpoknbgodaa

/- Contract of told: where the answer is the document's, it says so. -/
namespace Go.Proofs.Ytnpogpoknbgodaa
open Go.RowKit

end Go.Proofs.Ytnpogpoknbgodaa

/- Contract of spoil: it writes into the one row that it is handed, and nowhere else. -/
namespace Go.Proofs.Ytnpogpoknbgodaa
open Go.RowKit

theorem bits_nat (a b : Int) : ∃ y : Nat, y < 4294967296 ∧ bits BinOp.xor IntKind.u32 a b = (y : Int) := by
  refine ⟨(bits BinOp.xor IntKind.u32 a b).toNat, ?_, ?_⟩
  all_goals
    have h : 0 ≤ bits BinOp.xor IntKind.u32 a b ∧ bits BinOp.xor IntKind.u32 a b < 4294967296 := by
      simp only [bits, IntKind.wrap, IntKind.signed, IntKind.bits]
      simp
      omega
    omega

end Go.Proofs.Ytnpogpoknbgodaa

/- Contract of copied. -/
namespace Go.Proofs.Ytnpogpoknbgodaa
open Go.RowKit
attribute [local go_sem ↓] Go.wp_at_zero Go.wp_at_succ

theorem own_empty (W : World) (base g : Nat) (hs : W.heap.size = g) (hb : base ≤ g) : ((W.alloc (.cells #[] 60)).drew).ownsRow base 60 1 (.slice (some ⟨g, 0, none⟩) 0 0) 0 [] := by
  subst hs
  exact World.ownsRow_made W #[] 0 hb (by simp [maxLen]) (by simp)

theorem own_mono {w : World} {base base' : Nat} {v : Value} {n : Nat} {xs : List Value} (h : w.ownsRow base 60 1 v n xs) (hb : base' ≤ base) : w.ownsRow base' 60 1 v n xs := by
  refine ⟨h.1, ?_⟩
  rcases h.2 with h1 | ⟨g, cap, cur, h1, h2, h3⟩
  · exact .inl h1
  · exact .inr ⟨g, cap, cur, h1, by omega, h3⟩

end Go.Proofs.Ytnpogpoknbgodaa

/- What stays where one row is written over; copied of any number. -/
namespace Go.Proofs.Ytnpogpoknbgodaa
open Go.RowKit

theorem own_below {w w' : World} {base : Nat} {v : Value} {n : Nat} {xs : List Value} (h : w.ownsRow base 60 1 v n xs) (hb : Below w.heap.size w w') : w'.ownsRow base 60 1 v n xs := by
  refine ⟨h.1, ?_⟩
  rcases h.2 with h1 | ⟨g, cap, cur, h1, h2, h3, h4⟩
  · exact .inl h1
  · exact .inr ⟨g, cap, cur, h1, h2, by rw [hb.block g (Array.getElem?_eq_some_iff.1 h3).1]; exact h3, h4⟩

theorem own_grown {w w' : World} {base k : Nat} {v : Value} {n : Nat} {xs : List Value} (h : w.ownsRow base 60 1 v n xs) (hg : w.grownBy w' (some k)) (hne : v.ownBlock ≠ some k) : w'.ownsRow base 60 1 v n xs := h.kept hg (.inr hne)

theorem Box2.grown {w w' : World} {b k : Nat} {x y : Value} (h : Box2 w b x y) (hg : w.grownBy w' (some k)) (hne : b ≠ k) : Box2 w' b x y := (hg.block b h.lt (by simpa using hne)).trans h

theorem LimbsAt.grown {w w' : World} {ao : Option Addr} {cap k : Nat} {L : List Nat} (h : LimbsAt w ao cap L) (hg : w.grownBy w' (some k)) (hne : ∀ b off, ao = some ⟨b, off, none⟩ → L ≠ [] → b ≠ k) : LimbsAt w' ao cap L := by
  refine ⟨h.1, h.2.1, ?_⟩
  rcases h.2.2 with h0 | ⟨b, off, h1, h2, h3⟩
  · exact .inl h0
  · by_cases he : L = []
    · exact .inl he
    · have hb := hg.block b h2 (by have := hne b off h1 he; simpa using this)
      refine .inr ⟨b, off, h1, Nat.lt_of_lt_of_le h2 hg.size, fun i hi => ?_⟩
      rw [World.cell?_of_block (a := ⟨b, off + i, none⟩) hb]
      exact h3 i hi

theorem IsNum.grown {w w' : World} {B k : Nat} {v : Value} {x : Int} (h : IsNum B w v x) (hg : w.grownBy w' (some k)) (hk : k < B) : IsNum B w' v x := by
  obtain ⟨neg, ao, cap, L, h1, h2, h3, h4⟩ := h
  refine ⟨neg, ao, cap, L, h1, h2.grown hg ?_, h3, h4⟩
  intro b off e he
  rcases h3 with h0 | ⟨b', off', e', hb'⟩
  · exact absurd h0 he
  · rw [e] at e'
    simp only [Option.some.injEq, Addr.mk.injEq] at e'
    omega

theorem below_grown {w w' : World} {k B : Nat} (hg : w.grownBy w' (some k)) (hk : B ≤ k) (hB : B ≤ w.heap.size) : Below B w w' := (Below.refl _ _).grown hg hB (fun j hj => by simp at hj; omega)

/-- A row of the call's own, as limbs. -/
theorem own_at {w : World} {base g n c : Nat} {S : List Nat} (h : w.ownsRow base 60 1 (.slice (some ⟨g, 0, none⟩) n c) n (S.map limbV)) (hf : Fits S) : LimbsAt w (some ⟨g, 0, none⟩) c S ∧ S.length = n ∧ base ≤ g ∧ g < w.heap.size := by
  obtain ⟨ao, cap, e1, e2, e3, e4⟩ := own_limbs h hf
  simp only [Value.slice.injEq] at e1
  obtain ⟨rfl, _, rfl⟩ := e1
  exact ⟨e2, e4, h.lt g rfl⟩

/-- What told is asked of an operation's answer. -/
theorem told_op (na : Bool) (A : List Nat) (nb : Bool) (B : List Nat) (z : Int) :
    (chk2 na A nb B ≠ 0 → opErr (rightB na A && rightB nb B) z = chk2 na A nb B ∧ opNum (rightB na A && rightB nb B) z = 0) ∧ (chk2 na A nb B = 0 → opErr (rightB na A && rightB nb B) z = errOf z ∧ opNum (rightB na A && rightB nb B) z = numOf z) := by
  cases h : (rightB na A && rightB nb B)
  · simp [chk2, h, opErr_false, opNum_false]
  · simp [chk2, h, opErr_true, opNum_true]

end Go.Proofs.Ytnpogpoknbgodaa

