/- Part 35 of the texts. -/
import Derived.Test.YtimejpbmehegeaaGreatDoorPartc24
import Derived.Test.YtimejpbmehegeaaGreatDoorPartc32
import Derived.Test.YtimejpbmehegeaaGreatDoorPartc34
import Derived.Deep.RegionLaw
import Derived.Deep.RegionWith
import Derived.Test.YtimejpbmehegeaaGreatDoorPartc30
import Derived.Deep.RegionHeld3
import Derived.Test.YtimejpbmehegeaaGreatDoorPartc31
import Derived.Test.YtimejpbmehegeaaGreatDoorPartc33
/- The mirror of a vector in the document's order; what it leaves. Ahead of stage 13. -/
namespace Go.Proofs.YtimejpbmehegeaaGreatDoor

/-- Are all noughts? -/
def ngt (xs : List Nat) : Bool := xs.all (fun x => decide (fK x = 0))
/-- The sign of the first number that is no nought. -/
def ldS : List Nat → Bool
  | [] => false
  | x :: xs => if fK x = 0 then ldS xs else fS x
def hmB (a : Nat) (xs : List Nat) : Nat := if ldS (a :: xs) = true then nrV (a :: xs) else fN (nrV (a :: xs))
def hmD (a : Nat) (xs : List Nat) : Nat := aV a (fN (hmB a xs))
/-- The mirror's beta, tau and v; is there one? -/
def mrB : List Nat → Nat
  | [] => 0
  | a :: xs => if ngt xs = true then a else hmB a xs
def mrT : List Nat → Nat
  | [] => 0
  | a :: xs => if ngt xs = true then 0 else dV (aV (hmB a xs) (fN a)) (hmB a xs)
def mrV : List Nat → List Nat
  | [] => []
  | a :: xs => 4607182418800017408 :: xs.map (fun x => if ngt xs = true then 0 else dV x (hmD a xs))
def mrK : List Nat → Bool
  | [] => true
  | a :: xs => ngt xs || (fFin (hmB a xs) && fFin (hmD a xs))

theorem toN_mxL (xs : List Nat) : toN (mxL xs) = xs := by
  unfold toN mxL
  rw [List.map_map]
  exact List.map_id'' (fun x => by simp) xs
theorem nrV_lt (xs : List Nat) : nrV xs < 18446744073709551616 := by
  have := nmV_lt (mxL xs)
  rwa [nmV_nrV, toN_mxL] at this
theorem hmB_lt (a : Nat) (xs : List Nat) : hmB a xs < 18446744073709551616 := by
  unfold hmB
  split
  · exact nrV_lt _
  · exact fN_lt _ (nrV_lt _)
theorem hmD_lt (a : Nat) (xs : List Nat) (ha : a < 18446744073709551616) : hmD a xs < 18446744073709551616 := aV_lt _ _ ha (fN_lt _ (hmB_lt _ _))
theorem mrB_lt (xs : List Nat) (h : ∀ x ∈ xs, x < 18446744073709551616) : mrB xs < 18446744073709551616 := by
  match xs with
  | [] => decide
  | a :: xs =>
    show (if ngt xs = true then a else hmB a xs) < _
    split
    · exact h a List.mem_cons_self
    · exact hmB_lt _ _
theorem mrT_lt (xs : List Nat) : mrT xs < 18446744073709551616 := by
  match xs with
  | [] => decide
  | a :: xs =>
    show (if ngt xs = true then 0 else dV (aV (hmB a xs) (fN a)) (hmB a xs)) < _
    split
    · decide
    · exact dV_lt _ _
theorem mrV_len (xs : List Nat) : (mrV xs).length = xs.length := by
  match xs with
  | [] => rfl
  | a :: xs => simp [mrV]
theorem fN_fN13 (b : Nat) (h : b < 18446744073709551616) : fN (fN b) = b := by
  unfold fN
  repeat' split
  all_goals omega
theorem fK_0_of {x : Nat} (hx : x < 18446744073709551616) (fx : fFin x = true) (h : fQ x = 0) : fK x = 0 := by
  by_cases h0 : fK x = 0
  · exact h0
  · have h1 := (eX_top x hx fx h0).1
    rw [h, ab_zero12] at h1
    have := p2_pos (eX x)
    grind
theorem ngt_true {xs : List Nat} (h : ngt xs = true) : ∀ x ∈ xs, fK x = 0 := fun x hx => of_decide_eq_true (List.all_eq_true.1 h x hx)
theorem ngt_sum {xs : List Nat} (h : ngt xs = true) : sumQ xs = 0 := by
  have h2 := ngt_true h
  clear h
  induction xs with
  | nil => rfl
  | cons x xs ih =>
    show fQ x * fQ x + sumQ xs = 0
    rw [fQ_nought x (h2 x List.mem_cons_self), ih (fun y hy => h2 y (List.mem_cons_of_mem _ hy))]
    grind

/-- Of the first number that is no nought and the vector's first number: their signs. -/
theorem ld_sign (a : Nat) (xs : List Nat) : (ldS (a :: xs) = true → fQ a ≤ 0) ∧ (ldS (a :: xs) = false → 0 ≤ fQ a) := by
  have h1 := mag_0 (fR a)
  by_cases h : fK a = 0
  · rw [fQ_nought a h]
    exact ⟨fun _ => Rat.le_refl, fun _ => Rat.le_refl⟩
  · have e : ldS (a :: xs) = fS a := if_neg h
    rw [e, fQ_sign a]
    refine ⟨fun g => ?_, fun g => ?_⟩
    · rw [if_pos g]; grind
    · rw [if_neg (by rw [g]; decide)]; exact h1

/-- What is known of the mirror of tame numbers of which one behind the first is no nought. -/
theorem mr_facts (a : Nat) (xs : List Nat) (hl : (a :: xs).length ≤ 64) (h : TameV 200 (a :: xs)) (hn : ngt xs = false) :
    bgF 0 (a :: xs) ≠ 0 ∧ fFin (hmB a xs) = true ∧ fK (hmB a xs) ≠ 0 ∧ fFin (hmD a xs) = true ∧ ((fQ (hmB a xs) = fQ (nrV (a :: xs)) ∧ fQ a ≤ 0) ∨ (fQ (hmB a xs) = -fQ (nrV (a :: xs)) ∧ 0 ≤ fQ a)) ∧ ((fS (hmB a xs) = false ∧ hmB a xs = nrV (a :: xs)) ∨ (fS (hmB a xs) = true ∧ fN (hmB a xs) = nrV (a :: xs))) := by
  have hf : ∀ x ∈ a :: xs, fFin x = true := fun x hx => (h x hx).2.1
  have h0 : bgF 0 (a :: xs) ≠ 0 := by
    intro e
    have k := bg_0 (a :: xs) hf e
    have : ngt xs = true := List.all_eq_true.2 (fun x hx => decide_eq_true (fK_0_of (h x (List.mem_cons_of_mem _ hx)).1 (hf x (List.mem_cons_of_mem _ hx)) (k x (List.mem_cons_of_mem _ hx))))
    rw [this] at hn
    cases hn
  obtain ⟨n1, n2, n3, _⟩ := norm_size (a :: xs) hl h h0
  have nl := nrV_lt (a :: xs)
  have nk : fK (nrV (a :: xs)) ≠ 0 := fun e => by rw [fQ_nought _ e] at n1; exact absurd n1 (by decide)
  obtain ⟨s1, s2⟩ := ld_sign a xs
  have key : fFin (hmB a xs) = true ∧ fK (hmB a xs) ≠ 0 ∧ ((fQ (hmB a xs) = fQ (nrV (a :: xs)) ∧ fQ a ≤ 0) ∨ (fQ (hmB a xs) = -fQ (nrV (a :: xs)) ∧ 0 ≤ fQ a)) ∧ ((fS (hmB a xs) = false ∧ hmB a xs = nrV (a :: xs)) ∨ (fS (hmB a xs) = true ∧ fN (hmB a xs) = nrV (a :: xs))) := by
    unfold hmB
    by_cases e : ldS (a :: xs) = true
    · rw [if_pos e]
      exact ⟨n2, nk, .inl ⟨rfl, s1 e⟩, .inl ⟨n3, rfl⟩⟩
    · rw [if_neg e]
      have e2 : ldS (a :: xs) = false := by simpa using e
      have q := fQ_fN (nrV (a :: xs)) nl
      refine ⟨(fFin_fN _ nl).trans n2, fun g => nk ((fK_fN _ nl).symm.trans g), .inr ⟨q, s2 e2⟩, .inr ⟨?_, fN_fN13 _ nl⟩⟩
      rw [fS_fN _ nl, n3]
      rfl
  obtain ⟨k1, k2, k3, k4⟩ := key
  obtain ⟨m1, _⟩ := house_make a (hmB a xs) xs hl h h0 (hmB_lt a xs) k1 k2 k3
  exact ⟨h0, k1, k2, m1, k3, k4⟩

end Go.Proofs.YtimejpbmehegeaaGreatDoor

/- A matrix mirrored, column by column; its square. Ahead of stage 13. -/
namespace Go.Proofs.YtimejpbmehegeaaGreatDoor
theorem list_range (L : List Nat) : L = (List.range L.length).map (fun j => L.getD j 0) := by
  refine List.ext_getElem (by simp) (fun j h1 h2 => ?_)
  simp [List.getD_eq_getElem?_getD, h1]
/-- What makes a mirror, or leaves all as it is. -/
def MrF (vs : List Nat) (tau : Nat) : Prop := fFin tau = true ∧ (∀ v ∈ vs, fFin v = true ∧ 1000 * ab (fQ v) ≤ 1001) ∧ ((1000 * ab (fQ tau) ≤ 2001 ∧ 8796093022208 * ab (fQ tau * sumQ vs - 2) ≤ 1) ∨ fQ tau = 0)

end Go.Proofs.YtimejpbmehegeaaGreatDoor

/- A matrix mirrored keeps its square; a vector mirrored by its own mirror. Ahead of stage 13. -/
namespace Go.Proofs.YtimejpbmehegeaaGreatDoor
/-- What the mirror of tame numbers is. -/
theorem mr_MrF (xs : List Nat) (hx : xs ≠ []) (hl : xs.length ≤ 64) (h : TameV 200 xs) : MrF (mrV xs) (mrT xs) ∧ mrK xs = true := by
  match xs, hx with
  | a :: xs, _ =>
    have one : fFin 4607182418800017408 = true ∧ 1000 * ab (fQ 4607182418800017408) ≤ 1001 := ⟨fin_one12, by rw [fQ_one12]; unfold ab; grind⟩
    cases hn : ngt xs
    · obtain ⟨h0, k1, k2, m1, k3, _⟩ := mr_facts a xs hl h hn
      obtain ⟨f1, f2, f3, f4, f5, f6, _⟩ := house_facts a (hmB a xs) (hmD a xs) (dV (aV (hmB a xs) (fN a)) (hmB a xs)) xs (xs.map (fun x => dV x (hmD a xs))) hl h h0 (hmB_lt a xs) k1 k2 k3 rfl rfl rfl
      have e1 : mrV (a :: xs) = 4607182418800017408 :: xs.map (fun x => dV x (hmD a xs)) := by
        show 4607182418800017408 :: xs.map (fun x => if ngt xs = true then 0 else dV x (hmD a xs)) = _
        rw [hn]
        simp
      have e2 : mrT (a :: xs) = dV (aV (hmB a xs) (fN a)) (hmB a xs) := if_neg (by rw [hn]; decide)
      rw [e1, e2]
      refine ⟨⟨f1, f5, .inl ⟨f2, f6⟩⟩, ?_⟩
      show (ngt xs || (fFin (hmB a xs) && fFin (hmD a xs))) = true
      rw [k1, m1, Bool.and_self, Bool.or_true]
    · have e2 : mrT (a :: xs) = 0 := if_pos hn
      rw [e2]
      refine ⟨⟨fin_zero12, fun v hv => ?_, .inr fQ_zero12⟩, ?_⟩
      · rcases List.mem_cons.1 hv with rfl | hv
        · exact one
        · obtain ⟨x, _, rfl⟩ := List.mem_map.1 hv
          show fFin (if ngt xs = true then 0 else _) = true ∧ 1000 * ab (fQ (if ngt xs = true then 0 else _)) ≤ 1001
          rw [hn, if_pos rfl, fQ_zero12, ab_zero12]
          exact ⟨fin_zero12, by grind⟩
      · show (ngt xs || (fFin (hmB a xs) && fFin (hmD a xs))) = true
        rw [hn, Bool.true_or]

end Go.Proofs.YtimejpbmehegeaaGreatDoor

/- The reference of layer 10: In, Copy, Stack, Beside. -/
namespace Go.Proofs.YtimejpbmehegeaaGreatDoor
open Go.RowKit
attribute [local go_sem ↓] Go.wp_at_zero Go.wp_at_succ
theorem OwnB.least {base base' : Nat} {w : World} {v : Value} {S : List Nat} (h : OwnB base w v S) (hb : base' ≤ base) : OwnB base' w v S := by
  refine ⟨⟨h.1.1, ?_⟩, h.2⟩
  rcases h.1.2 with e | ⟨g, cap, cur, hv, hg, rest⟩
  · exact .inl e
  · exact .inr ⟨g, cap, cur, hv, Nat.le_trans hb hg, rest⟩
end Go.Proofs.YtimejpbmehegeaaGreatDoor

/- The reference of layer 13: noughts, lead. -/
namespace Go.Proofs.YtimejpbmehegeaaGreatDoor
open Go.RowKit
attribute [local go_sem ↓] Go.wp_at_zero Go.wp_at_succ

theorem toN_getD (I : List Int) (j : Nat) (hj : j < I.length) : (toN I).getD j 0 = atB I j := by
  rw [List.getD_eq_getElem?_getD, toN_at I j hj]
  rfl
theorem ldS_drop (L : List Nat) {j : Nat} (h : j < L.length) : ldS (L.drop j) = if fK (L.getD j 0) = 0 then ldS (L.drop (j + 1)) else fS (L.getD j 0) := by
  rw [List.drop_eq_getElem_cons h, List.getD_eq_getElem?_getD, List.getElem?_eq_getElem h]
  rfl

end Go.Proofs.YtimejpbmehegeaaGreatDoor

