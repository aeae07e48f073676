/- Part 7 of the texts. -/
import Derived.Test.YtnpogpoknbgodaaPart06
import Derived.Test.YtnpogpoknbgodaaPart05
import Derived.Maps.AppendAt
import Derived.Test.YtnpogpoknbgodaaPart04
import Derived.Test.YtnpogpoknbgodaaPart03
/- Contracts of the reference's plus, minus. -/
namespace Go.Proofs.Ytnpogpoknbgodaa
open Go.RowKit

/-- What the call itself has gathered by append, as limbs. -/
theorem own_limbs {w : World} {base : Nat} {v : Value} {n : Nat} {S : List Nat} (h : w.ownsRow base 60 1 v n (S.map limbV)) (hf : Fits S) :
    ∃ ao cap, v = .slice ao S.length cap ∧ LimbsAt w ao cap S ∧ NewAt base ao S ∧ S.length = n := by
  have hl : S.length = n := by have := h.1; simpa using this
  rcases h.2 with ⟨hv, h0⟩ | ⟨g, cap, cur, hv, hg, hh, hc, hm, hs, ht⟩
  · have : S = [] := List.length_eq_zero_iff.1 (by omega)
    subst this
    exact ⟨none, 0, hv, LimbsAt.nil _ _ _, .inl rfl, hl⟩
  · refine ⟨some ⟨g, 0, none⟩, cap, by rw [hl]; exact hv, ⟨by omega, hf, .inr ⟨g, 0, rfl, (Array.getElem?_eq_some_iff.1 hh).1, fun i hi => ?_⟩⟩, .inr ⟨g, 0, rfl, hg⟩, hl⟩
    have hv' := h
    rw [hv] at hv'
    rw [Nat.zero_add, hv'.cellAt i (by omega)]
    simp [limbV, hi]

theorem own_snoc {w : World} {base : Nat} {v : Value} {n : Nat} {S : List Nat} {x : Nat} {d : Int} (h : w.ownsRow base 60 1 v (n + 1) (S.map limbV ++ [.int .u32 d])) (hd : d = (x : Int)) : w.ownsRow base 60 1 v (n + 1) ((S ++ [x]).map limbV) := by
  subst hd
  simpa [limbV] using h

set_option maxHeartbeats 400000 in
theorem plus_any (ao bo : Option Addr) (ca cb : Nat) (A B : List Nat) (w : World) (hA : LimbsAt w ao ca A) (hB : LimbsAt w bo cb B) (la : A.length ≤ 35184372088830) (lb : B.length ≤ 35184372088830) :
    Calls Try.prog 26 #[.slice ao A.length ca, .slice bo B.length cb] w fun e w' => ∃ ao' cap' L', e = .returned (.slice ao' L'.length cap') ∧ LimbsAt w' ao' cap' L' ∧ NewAt w.heap.size ao' L' ∧ L'.length = max A.length B.length + 1 ∧ val L' = val A + val B ∧ Below w.heap.size w w' := by
  obtain ⟨i0, hi, hz0, hz1, hz2⟩ := info_parts Try.info60
  obtain ⟨n, hn⟩ : ∃ n, n = max A.length B.length := ⟨_, rfl⟩
  have n1 : A.length ≤ n := by omega
  have n2 : B.length ≤ n := by omega
  have n3 : n ≤ 35184372088830 := by omega
  have HN := hide hn
  have hst : ∀ (S : List Nat) (c x y : Nat), A[S.length]?.getD 0 = x → B[S.length]?.getD 0 = y → val S + 4294967296 ^ S.length * c = val (A.take S.length) + val (B.take S.length) → val (S ++ [(x + y + c) % 4294967296]) + 4294967296 ^ (S.length + 1) * ((x + y + c) / 4294967296) = val (A.take (S.length + 1)) + val (B.take (S.length + 1)) := fun S c x y => plus_step A B S c x y
  have hen : ∀ (S : List Nat) (c : Nat), S.length = n + 1 → val S + 4294967296 ^ S.length * c = val (A.take S.length) + val (B.take S.length) → val S = val A + val B := by
    intro S c hl h
    refine add_end A B S (n + 1) c hA.2.1 hB.2.1 (by omega) (by omega) hl ?_
    rw [← hl, List.take_length]; exact h
  have HST := hide hst
  have HEN := hide hen
  clear hst hen
  rcases (show (A.length < B.length ∧ n = B.length) ∨ (¬ A.length < B.length ∧ n = A.length) by omega) with ⟨hm, e⟩ | ⟨hm, e⟩
  all_goals
    have HE := hide e
    have n4 : (n : Int) ≤ 35184372088830 := by omega
    clear hn e
    go_enter Try.func26, Try.ntmps26
    go_wp2
    go_loopw [5, 6, 7] (fun v c i wr => ∃ (S : List Nat) (y : Nat), S.length ≤ n + 1 ∧ i = .int .i64 (S.length : Nat) ∧ c = .int .u64 y ∧ y ≤ 1 ∧ wr.ownsRow w.heap.size 60 1 v S.length (S.map limbV) ∧ Fits S ∧ Below w.heap.size w wr ∧ Hid (val S + 4294967296 ^ S.length * y = val (A.take S.length) + val (B.take S.length)))
      (fun _ _ i _ => n + 1 - (intOf i).toNat)
    case atStart => 
      refine ⟨[], 0, by simp, rfl, rfl, by omega, ?_, by intro x hx; simp at hx, (Below.refl _ _).alloc (Nat.le_refl _) _, by unfold Hid; simp [val]⟩
      exact World.ownsRow_made w #[] 0 (Nat.le_refl _) (by simp [maxLen]) (by simp)
    case round =>
      obtain ⟨S, y, hk, rfl, rfl, hy, hown, hf, hbel, hv⟩ := hrel
      have hn := unhide HE
      by_cases hlt : S.length ≤ n
      · obtain ⟨xa, hxa⟩ : ∃ x, A[S.length]?.getD 0 = x := ⟨_, rfl⟩
        obtain ⟨xb, hxb⟩ : ∃ x, B[S.length]?.getD 0 = x := ⟨_, rfl⟩
        have ba : xa < 4294967296 := by rw [← hxa]; exact hA.lt _
        have bb : xb < 4294967296 := by rw [← hxb]; exact hB.lt _
        have cA := hA.below hbel
        have cB := hB.below hbel
        have HS2 := hide (unhide HST S y xa xb hxa hxb hv.out)
        have HXA := hide hxa
        have HXB := hide hxb
        have hsz := hbel.size
        have HF := hide hf
        clear hxa hxb hv HST HEN hf
        generalize hSl : S.length = k at *
        have HSL := hide hSl
        clear hSl
        have hki : (k : Int) ≤ (n : Int) := by omega
        rw [hn] at hki
        clear hn
        go_wp2_with (first | (go_at_call_of 42 (Value.slice ao A.length ca); refine (limb_x ao ca A _ k xa _ cA la rfl HXA).mono ?_; rintro e w' ⟨rfl, rfl⟩) | (go_at_call_of 42 (Value.slice bo B.length cb); refine (limb_x bo cb B _ k xb _ cB lb rfl HXB).mono ?_; rintro e w' ⟨rfl, rfl⟩) | (at_builtin; refine wpList_append_own _ rfl _ _ 33 rfl w.heap.size 60 i0 (.int .u32 0) 1 4 Try.underlying33 hi hz0 hz1 hz2 rfl (by decide) _ _ _ rfl (hown.alloc _) ⟨wr.heap.size, 0, none⟩ 1 1 [.int .u32 (((xa : Int) + (xb : Int) + (y : Int)) % 4294967296)] rfl rfl (cell_one_new _ _ _) (fun u hu => by simp at hu; subst hu; rfl) (by unfold maxLen; omega) (by omega) (by simp; omega) ?_; intro v' w1 hown' hgrow _; have hbl : Below w.heap.size w w1 := ((hbel.alloc hsz _).grown hgrow (by simp; omega) (fun g hg => (hown.lt g hg).1)); have ho2 := hide (own_snoc (x := (xa + xb + y) % 4294967296) hown' (by omega)); clear hown' hgrow))
        have hS2 := unhide HS2
        have hl2 : (S ++ [(xa + xb + y) % 4294967296]).length = k + 1 := by simp [unhide HSL]
        go_roundw
        case rel => exact ⟨S ++ [(xa + xb + y) % 4294967296], (xa + xb + y) / 4294967296, by omega, by rw [hl2]; go_num, int_eq (by omega), by omega, by rw [hl2]; exact unhide ho2, (unhide HF).snoc (by omega), hbl, by rw [hl2]; exact hS2⟩
        case measure => simp [intOf]; omega
      · have hend := unhide HEN S y (by omega) hv.out
        have HEND := hide hend
        obtain ⟨ao', cap', e1, e2, e3, e4⟩ := own_limbs hown hf
        have E2 := hide e2
        have E3 := hide e3
        have hki : ¬ ((S.length : Nat) : Int) ≤ (n : Int) := by omega
        rw [hn] at hki
        have HK := hide hk
        have HLT := hide hlt
        subst e1
        clear hend hv HST hown hn e2 e3 e4 HEN hk hlt
        go_wp2
        go_ret
        have hN := unhide HN
        have h1 := unhide HK
        have h2 := unhide HLT
        exact ⟨ao', cap', S, rfl, unhide E2, unhide E3, by omega, unhide HEND, hbel⟩

end Go.Proofs.Ytnpogpoknbgodaa

/- Rows of numbers, and rows of rows, that a call itself makes by appending. -/
namespace Go.Proofs.Ytnpogpoknbgodaa
open Go.RowKit

/-- The number's limbs don't lie in block g. -/
def Av (g : Option Nat) (x : Nm) : Prop := x.L = [] ∨ ∃ b off, x.ao = some ⟨b, off, none⟩ ∧ some b ≠ g
/-- Nothing of the row lies in block g. -/
def AvR (g : Option Nat) (r : Rw) : Prop := (r.R = [] ∨ ∃ b off, r.ao = some ⟨b, off, none⟩ ∧ some b ≠ g) ∧ ∀ x ∈ r.R, Av g x
def numCells (R : List Nm) : List Value := R.flatMap (fun x => [.bool x.neg, .slice x.ao x.L.length x.cap])

theorem Av.none (w : World) (x : Nm) (h : LimbsAt w x.ao x.cap x.L) : Av none x := by
  rcases h.2.2 with e | ⟨b, off, e, _⟩
  · exact .inl e
  · exact .inr ⟨b, off, e, by simp⟩
theorem Av.new {w : World} {x : Nm} (h : LimbsAt w x.ao x.cap x.L) {g : Nat} (hg : w.heap.size ≤ g) : Av (some g) x := by
  rcases h.2.2 with e | ⟨b, off, e, hb, _⟩
  · exact .inl e
  · exact .inr ⟨b, off, e, by intro e; cases e; omega⟩
theorem Av.old {B : Nat} {x : Nm} (h : NewAt B x.ao x.L) {g : Option Nat} (hg : ∀ m, g = some m → m < B) : Av g x := by
  rcases h with e | ⟨b, off, e, hb⟩
  · exact .inl e
  · exact .inr ⟨b, off, e, fun e => by have := hg b e.symm; omega⟩
theorem AvR.new {w : World} {r : Rw} (h : NumsAt w r.ao r.cap r.R) {g : Nat} (hg : w.heap.size ≤ g) : AvR (some g) r := by
  refine ⟨?_, fun x hx => Av.new (h.2.1 x hx) hg⟩
  rcases h.2.2 with e | ⟨b, off, e, hb, _⟩
  · exact .inl e
  · exact .inr ⟨b, off, e, by intro e; cases e; omega⟩
theorem AvR.none {w : World} {r : Rw} (h : NumsAt w r.ao r.cap r.R) : AvR none r := by
  refine ⟨?_, fun x hx => Av.none w x (h.2.1 x hx)⟩
  rcases h.2.2 with e | ⟨b, off, e, hb, _⟩
  · exact .inl e
  · exact .inr ⟨b, off, e, by simp⟩

theorem LimbsAt.grownAv {w w' : World} {x : Nm} {g : Option Nat} (h : LimbsAt w x.ao x.cap x.L) (ha : Av g x) (hg : w.grownBy w' g) : LimbsAt w' x.ao x.cap x.L := by
  refine ⟨h.1, h.2.1, ?_⟩
  rcases h.2.2 with e | ⟨b, off, e, hb, hc⟩
  · exact .inl e
  · rcases ha with e' | ⟨b', off', e', hne⟩
    · exact .inl e'
    · rw [e] at e'
      simp only [Option.some.injEq, Addr.mk.injEq] at e'
      obtain ⟨rfl, rfl, _⟩ := e'
      refine .inr ⟨b, off, e, Nat.lt_of_lt_of_le hb hg.size, fun i hi => ?_⟩
      rw [World.cell?_of_block (a := ⟨b, off + i, none⟩) (hg.block b hb hne)]
      exact hc i hi
theorem NumsAt.grownAv {w w' : World} {r : Rw} {g : Option Nat} (h : NumsAt w r.ao r.cap r.R) (ha : AvR g r) (hg : w.grownBy w' g) : NumsAt w' r.ao r.cap r.R := by
  refine ⟨h.1, fun x hx => (h.2.1 x hx).grownAv (ha.2 x hx) hg, ?_⟩
  rcases h.2.2 with e | ⟨b, off, e, hb, hc⟩
  · exact .inl e
  · rcases ha.1 with e' | ⟨b', off', e', hne⟩
    · exact .inl e'
    · rw [e] at e'
      simp only [Option.some.injEq, Addr.mk.injEq] at e'
      obtain ⟨rfl, rfl, _⟩ := e'
      refine .inr ⟨b, off, e, Nat.lt_of_lt_of_le hb hg.size, fun k hk => ?_⟩
      rw [World.cell?_of_block (a := ⟨b, off + k * 2, none⟩) (hg.block b hb hne), World.cell?_of_block (a := ⟨b, off + k * 2 + 1, none⟩) (hg.block b hb hne)]
      exact hc k hk

/-- v is a row of the call's own, of the numbers R. -/
def OwnNums (base : Nat) (w : World) (v : Value) (R : List Nm) : Prop := w.ownsRow base 35 2 v R.length (numCells R) ∧ ∀ x ∈ R, LimbsAt w x.ao x.cap x.L ∧ Av v.ownBlock x
/-- v is a row of the call's own, of the rows M. -/
def OwnRows (base : Nat) (w : World) (v : Value) (M : List Rw) : Prop := w.ownsRow base 32 1 v M.length (M.map Rw.v) ∧ ∀ r ∈ M, NumsAt w r.ao r.cap r.R ∧ AvR v.ownBlock r

theorem length_numCells (R : List Nm) : (numCells R).length = R.length * 2 := by
  induction R with
  | nil => rfl
  | cons x R ih => simp only [numCells, List.flatMap_cons, List.length_append, List.length_cons, List.length_nil] at ih ⊢; rw [show (List.flatMap (fun x => [Value.bool x.neg, Value.slice x.ao x.L.length x.cap]) R).length = R.length * 2 from ih]; omega
theorem numCells_get : ∀ (R : List Nm) (k : Nat), k < R.length → (numCells R)[k * 2]? = some (.bool (nmAt R k).neg) ∧ (numCells R)[k * 2 + 1]? = some (.slice (nmAt R k).ao (nmAt R k).L.length (nmAt R k).cap)
  | x :: R, 0, _ => by simp [numCells, nmAt]
  | x :: R, k + 1, h => by
    have := numCells_get R k (by simpa using h)
    have e : numCells (x :: R) = .bool x.neg :: .slice x.ao x.L.length x.cap :: numCells R := rfl
    rw [e, show (k + 1) * 2 = k * 2 + 1 + 1 by omega]
    simpa [nmAt] using this

theorem OwnNums.start (w : World) (base : Nat) (hb : base ≤ w.heap.size) : OwnNums base (w.alloc (.cells #[] 35)) (.slice (some ⟨w.heap.size, 0, none⟩) 0 0) [] :=
  ⟨World.ownsRow_made w #[] 0 hb (by simp [maxLen]) (by simp), by simp⟩
theorem OwnRows.start (w : World) (base : Nat) (hb : base ≤ w.heap.size) : OwnRows base (w.alloc (.cells #[] 32)) (.slice (some ⟨w.heap.size, 0, none⟩) 0 0) [] :=
  ⟨World.ownsRow_made w #[] 0 hb (by simp [maxLen]) (by simp), by simp⟩

theorem OwnNums.lt {base : Nat} {w : World} {v : Value} {R : List Nm} (h : OwnNums base w v R) : ∀ k, v.ownBlock = some k → base ≤ k ∧ k < w.heap.size := h.1.lt
theorem OwnRows.lt {base : Nat} {w : World} {v : Value} {M : List Rw} (h : OwnRows base w v M) : ∀ k, v.ownBlock = some k → base ≤ k ∧ k < w.heap.size := h.1.lt

/-- What grows leaves a row alone that lies elsewhere. -/
theorem ownsRow_grown {w w' : World} {base e size n : Nat} {v : Value} {xs : List Value} {g : Option Nat} (h : w.ownsRow base e size v n xs) (hg : w.grownBy w' g) (hne : ∀ k, v.ownBlock = some k → some k ≠ g) : w'.ownsRow base e size v n xs := by
  refine ⟨h.1, ?_⟩
  rcases h.2 with h | ⟨k, cap, cur, hv, hb, hh, hr⟩
  · exact .inl h
  · have hk : k < w.heap.size := (Array.getElem?_eq_some_iff.1 hh).1
    exact .inr ⟨k, cap, cur, hv, hb, (hg.block k hk (hne k (by rw [hv]; rfl))).trans hh, hr⟩
theorem OwnNums.below {base : Nat} {w w' : World} {v : Value} {R : List Nm} (h : OwnNums base w v R) (hb : Below w.heap.size w w') : OwnNums base w' v R :=
  ⟨ownsRow_grown h.1 ⟨hb.os, hb.tape, hb.output, hb.size, fun k hk _ => hb.block k hk⟩ (fun k _ => by simp : ∀ k, v.ownBlock = some k → some k ≠ none), fun x hx => ⟨((h.2 x hx).1).below hb, (h.2 x hx).2⟩⟩
theorem OwnRows.below {base : Nat} {w w' : World} {v : Value} {M : List Rw} (h : OwnRows base w v M) (hb : Below w.heap.size w w') : OwnRows base w' v M :=
  ⟨ownsRow_grown h.1 ⟨hb.os, hb.tape, hb.output, hb.size, fun k hk _ => hb.block k hk⟩ (fun k _ => by simp : ∀ k, v.ownBlock = some k → some k ≠ none), fun x hx => ⟨((h.2 x hx).1).below hb, (h.2 x hx).2⟩⟩
/-- .. and a row of rows, where another row grows that it does not use. -/
theorem OwnRows.grown {base : Nat} {w w' : World} {v : Value} {M : List Rw} {g : Option Nat} (h : OwnRows base w v M) (hg : w.grownBy w' g) (hne : ∀ k, v.ownBlock = some k → some k ≠ g) (hav : ∀ r ∈ M, AvR g r) : OwnRows base w' v M :=
  ⟨ownsRow_grown h.1 hg hne, fun r hr => ⟨((h.2 r hr).1).grownAv (hav r hr) hg, (h.2 r hr).2⟩⟩

/-- One number more. -/
theorem OwnNums.snoc {base : Nat} {w w' : World} {v v' : Value} {R : List Nm} {x : Nm} (h : OwnNums base w v R) (hx : LimbsAt w x.ao x.cap x.L) (ha : Av v.ownBlock x) (ho : w'.ownsRow base 35 2 v' (R.length + 1) (numCells R ++ [.bool x.neg, .slice x.ao x.L.length x.cap])) (hg : w.grownBy w' v.ownBlock) (hl : v'.ownBlock = v.ownBlock ∨ v'.ownBlock = some w.heap.size) : OwnNums base w' v' (R ++ [x]) := by
  refine ⟨?_, fun y hy => ?_⟩
  · rw [List.length_append, show numCells (R ++ [x]) = numCells R ++ [.bool x.neg, .slice x.ao x.L.length x.cap] by simp [numCells]]
    exact ho
  · have hy' : LimbsAt w y.ao y.cap y.L ∧ Av v.ownBlock y := by
      rcases List.mem_append.1 hy with hy | hy
      · exact h.2 y hy
      · simp at hy; subst hy; exact ⟨hx, ha⟩
    refine ⟨hy'.1.grownAv hy'.2 hg, ?_⟩
    rcases hl with e | e
    · rw [e]; exact hy'.2
    · rw [e]; exact Av.new hy'.1 (Nat.le_refl _)
/-- One row more. -/
theorem OwnRows.snoc {base : Nat} {w w' : World} {v v' : Value} {M : List Rw} {r : Rw} (h : OwnRows base w v M) (hr : NumsAt w r.ao r.cap r.R) (ha : AvR v.ownBlock r) (ho : w'.ownsRow base 32 1 v' (M.length + 1) (M.map Rw.v ++ [r.v])) (hg : w.grownBy w' v.ownBlock) (hl : v'.ownBlock = v.ownBlock ∨ v'.ownBlock = some w.heap.size) : OwnRows base w' v' (M ++ [r]) := by
  refine ⟨?_, fun y hy => ?_⟩
  · rw [List.length_append, List.map_append]
    exact ho
  · have hy' : NumsAt w y.ao y.cap y.R ∧ AvR v.ownBlock y := by
      rcases List.mem_append.1 hy with hy | hy
      · exact h.2 y hy
      · simp at hy; subst hy; exact ⟨hr, ha⟩
    refine ⟨hy'.1.grownAv hy'.2 hg, ?_⟩
    rcases hl with e | e
    · rw [e]; exact hy'.2
    · rw [e]; exact AvR.new hy'.1 (Nat.le_refl _)

/-- What is read there. -/
theorem OwnNums.nums {base : Nat} {w : World} {v : Value} {R : List Nm} (h : OwnNums base w v R) : ∃ ao cap, v = .slice ao R.length cap ∧ NumsAt w ao cap R ∧ NewAt base ao (R.map (fun _ => 0)) := by
  rcases h.1.2 with ⟨hv, h0⟩ | ⟨g, cap, cur, hv, hg, hh, hc, hm, hs, ht⟩
  · have : R = [] := List.length_eq_zero_iff.1 h0
    subst this
    exact ⟨none, 0, hv, ⟨by simp, by simp, .inl rfl⟩, .inl rfl⟩
  · refine ⟨some ⟨g, 0, none⟩, cap, hv, ⟨hc, fun x hx => (h.2 x hx).1, .inr ⟨g, 0, rfl, (Array.getElem?_eq_some_iff.1 hh).1, fun k hk => ?_⟩⟩, .inr ⟨g, 0, rfl, hg⟩⟩
    obtain ⟨q1, q2⟩ := numCells_get R k hk
    rw [← ht, List.getElem?_take] at q1 q2
    rw [if_pos (by omega)] at q1 q2
    rw [cell_of_row w g _ _ _ _ hh, cell_of_row w g _ _ _ _ hh, Nat.zero_add]
    simp only [Array.getElem?_toList] at q1 q2
    exact ⟨q1, q2⟩
theorem OwnRows.mat {base : Nat} {w : World} {v : Value} {M : List Rw} (h : OwnRows base w v M) : ∃ ao cap, v = .slice ao M.length cap ∧ MatAt w ao cap M ∧ NewAt base ao (M.map (fun _ => 0)) := by
  rcases h.1.2 with ⟨hv, h0⟩ | ⟨g, cap, cur, hv, hg, hh, hc, hm, hs, ht⟩
  · have : M = [] := List.length_eq_zero_iff.1 h0
    subst this
    exact ⟨none, 0, hv, ⟨by simp, by simp, .inl rfl⟩, .inl rfl⟩
  · refine ⟨some ⟨g, 0, none⟩, cap, hv, ⟨hc, fun x hx => (h.2 x hx).1, .inr ⟨g, 0, rfl, (Array.getElem?_eq_some_iff.1 hh).1, fun i hi => ?_⟩⟩, .inr ⟨g, 0, rfl, hg⟩⟩
    have q1 : (M.map Rw.v)[i]? = some (rwAt M i).v := by
      rw [List.getElem?_map]
      unfold rwAt
      rw [List.getElem?_eq_getElem hi]; rfl
    rw [← ht, List.getElem?_take, if_pos (by omega)] at q1
    rw [cell_of_row w g _ _ _ _ hh, Nat.zero_add]
    simpa using q1

theorem below_of_grown {B : Nat} {a w w' : World} {g : Option Nat} (h : Below B a w) (hg : w.grownBy w' g) (hB : B ≤ w.heap.size) (hm : ∀ m, g = some m → B ≤ m) : Below B a w' :=
  h.trans ⟨hg.os, hg.tape, hg.output, hg.size, fun k hk => hg.block k (by omega) (fun e => by have := hm k e.symm; omega)⟩

end Go.Proofs.Ytnpogpoknbgodaa

/- Contracts of exact's rising, setOf. -/
namespace Go.Proofs.Ytnpogpoknbgodaa
open Go.RowKit

/-- The whole numbers I lie at ao. -/
def IntsAt (w : World) (ao : Option Addr) (cap : Nat) (I : List Int) : Prop :=
  I.length ≤ cap ∧ (∀ x ∈ I, -9223372036854775808 ≤ x ∧ x ≤ 9223372036854775807) ∧ (I = [] ∨ ∃ b off, ao = some ⟨b, off, none⟩ ∧ b < w.heap.size ∧ ∀ i, i < I.length → w.cell? ⟨b, off + i, none⟩ = some (.int .i64 (I[i]?.getD 0)))

theorem IntsAt.below {w w' : World} {ao : Option Addr} {cap : Nat} {I : List Int} (h : IntsAt w ao cap I) (hb : Below w.heap.size w w') : IntsAt w' ao cap I := by
  refine ⟨h.1, h.2.1, ?_⟩
  rcases h.2.2 with h | ⟨b, off, h1, h2, h3⟩
  · exact .inl h
  · refine .inr ⟨b, off, h1, Nat.lt_of_lt_of_le h2 hb.size, fun i hi => ?_⟩
    rw [hb.cell (p := ⟨b, off + i, none⟩) h2]
    exact h3 i hi
theorem IntsAt.ne {w : World} {ao : Option Addr} {cap : Nat} {I : List Int} (h : IntsAt w ao cap I) (h0 : 0 < I.length) : ∃ b off, ao = some ⟨b, off, none⟩ ∧ b < w.heap.size ∧ ∀ i, i < I.length → w.cell? ⟨b, off + i, none⟩ = some (.int .i64 (I[i]?.getD 0)) := by
  rcases h.2.2 with e | e
  · rw [e] at h0; simp at h0
  · exact e

def atI (I : List Int) (j : Nat) : Int := I[j]?.getD 0
theorem IntsAt.wf {w : World} {ao : Option Addr} {cap : Nat} {I : List Int} (h : IntsAt w ao cap I) (j : Nat) : -9223372036854775808 ≤ atI I j ∧ atI I j ≤ 9223372036854775807 := by
  unfold atI
  by_cases hi : j < I.length
  · rw [List.getElem?_eq_getElem hi]; exact h.2.1 _ (List.getElem_mem hi)
  · rw [List.getElem?_eq_none (by omega)]; simp

/-- Is place j one that is above the one ahead, and below n? -/
def okAt (I : List Int) (n : Int) (j : Nat) : Prop := 0 ≤ atI I j ∧ atI I j < n ∧ (0 < j → atI I (j - 1) < atI I j)
instance (I : List Int) (n : Int) (j : Nat) : Decidable (okAt I n j) := by unfold okAt; exact inferInstance
/-- Do places rise, from 0 on, below n? -/
def risB (I : List Int) (n : Int) : Bool := decide (∀ j, j < I.length → okAt I n j)

theorem ins_elems : ∀ s, s < 64 → ∀ c, c < 6 → (∀ d ∈ elems s, d < c) → elems (ins s c) = elems s ++ [c] ∧ ins s c < 64 := by decide +kernel
theorem elems_zero : elems 0 = [] := by decide +kernel
/-- The places as numbers from 0 on. -/
def natI (I : List Int) : List Nat := I.map Int.toNat

end Go.Proofs.Ytnpogpoknbgodaa

/- Contract of Mul. -/
namespace Go.Proofs.Ytnpogpoknbgodaa
open Go.RowKit
attribute [local go_sem ↓] Go.wp_at_zero Go.wp_at_succ

theorem mul_big (A B : List Nat) (cA : Canon A) (cB : Canon B) (lA : A.length ≤ 512) (lB : B.length ≤ 512) (h : 512 < A.length + B.length - 1) : ¬ val A * val B < TOP := by
  have a1 : A ≠ [] := by rintro rfl; simp at h; omega
  have b1 : B ≠ [] := by rintro rfl; simp at h; omega
  have hA := val_ge A (cA.resolve_left a1)
  have hB := val_ge B (cB.resolve_left b1)
  have hm := Nat.mul_le_mul hA hB
  rw [← Nat.pow_add] at hm
  have hp : TOP ≤ 4294967296 ^ (A.length - 1 + (B.length - 1)) := by
    unfold TOP
    exact Nat.pow_le_pow_right (by decide) (show TOPN ≤ A.length - 1 + (B.length - 1) by unfold TOPN; omega)
  omega

set_option maxHeartbeats 2000000 in
theorem mul_any (na nb : Bool) (ao bo : Option Addr) (ca cb : Nat) (A B : List Nat) (w : World) (hA : LimbsAt w ao ca A) (hB : LimbsAt w bo cb B) (la : A.length ≤ 35184372088830) (lb : B.length ≤ 35184372088830) :
    Calls Try.prog 53 #[.agg #[.bool na, .slice ao A.length ca], .agg #[.bool nb, .slice bo B.length cb]] w fun e w' => ∃ v, e = .returned (.tuple #[v, .int .i64 (opErr (rightB na A && rightB nb B) (sval na A * sval nb B))]) ∧ IsNum w.heap.size w' v (opNum (rightB na A && rightB nb B) (sval na A * sval nb B)) ∧ Below w.heap.size w w' := by
  have hC : (rightB na A && rightB nb B) = true → Canon A ∧ Canon B := fun h => by
    simp only [Bool.and_eq_true] at h; exact ⟨(right_canon h.1).2.1, (right_canon h.2).2.1⟩
  have hL : (rightB na A && rightB nb B) = true → A.length ≤ 512 ∧ B.length ≤ 512 ∧ (512 < A.length + B.length - 1 → errOf (sval na A * sval nb B) = 2 ∧ numOf (sval na A * sval nb B) = 0) := fun h => by
    simp only [Bool.and_eq_true] at h
    have r1 := right_canon h.1
    have r2 := right_canon h.2
    refine ⟨r1.1, r2.1, fun hb => ?_⟩
    have big : ¬ (sval na A * sval nb B).natAbs < TOP := by
      rw [Int.natAbs_mul, natAbs_sval, natAbs_sval]
      exact mul_big A B r1.2.1 r2.2.1 r1.1 r2.1 hb
    constructor
    · unfold errOf; rw [if_neg big]
    · unfold numOf; rw [if_neg big]
  have hsv : ∀ L : List Nat, val L = val A * val B → sval (na != nb) L = sval na A * sval nb B := by
    intro L h; unfold sval; rw [h]; cases na <;> cases nb <;> simp [Int.neg_mul, Int.mul_neg]
  have HC := hide hC
  have HL := hide hL
  have HSV := hide hsv
  clear hL hsv
  have H2 := hide (show chk2 na A nb B = if (rightB na A && rightB nb B) then 0 else 1 from rfl)
  clear hC
  generalize hok : (rightB na A && rightB nb B) = ok at *
  generalize sval na A * sval nb B = z at *
  clear hok
  go_enter Try.func53, Try.ntmps53
  go_wp2_with fail
  have hb0 : Below w.heap.size w (((w.alloc (.cells #[.bool na, .slice ao A.length ca] 35)).alloc (.cells #[.bool nb, .slice bo B.length cb] 35)).alloc (.cells #[.bool false, .slice none 0 0] 35)) :=
    (((Below.refl _ _).alloc (Nat.le_refl _) _).alloc (by simp) _).alloc (by simp; omega) _
  refine (checkBoth_any na nb ao bo ca cb A B _ (hA.below hb0) (hB.below hb0) la lb).mono ?_
  rintro e w1 ⟨rfl, hb1⟩
  have hs1 : w.heap.size + 3 ≤ w1.heap.size := by have := hb1.size; simpa using this
  have hb2 : Below w.heap.size w w1 := hb0.trans (hb1.mono (by simp; omega))
  have p0 : w1.cell? ⟨w.heap.size, 0, none⟩ = some (.bool na) := by rw [hb1.cell (p := ⟨w.heap.size, 0, none⟩) (by simp; omega)]; simp [go_sem]
  have p1 : w1.cell? ⟨w.heap.size, 1, none⟩ = some (.slice ao A.length ca) := by rw [hb1.cell (p := ⟨w.heap.size, 1, none⟩) (by simp; omega)]; simp [go_sem]
  have q0 : w1.cell? ⟨w.heap.size + 1, 0, none⟩ = some (.bool nb) := by rw [hb1.cell (p := ⟨w.heap.size + 1, 0, none⟩) (by simp)]; simp [go_sem]
  have q1 : w1.cell? ⟨w.heap.size + 1, 1, none⟩ = some (.slice bo B.length cb) := by rw [hb1.cell (p := ⟨w.heap.size + 1, 1, none⟩) (by simp)]; simp [go_sem]
  have r2 : Box2 w1 (w.heap.size + 2) (.bool false) (.slice none 0 0) := by
    have := Box2.new ((w.alloc (.cells #[.bool na, .slice ao A.length ca] 35)).alloc (.cells #[.bool nb, .slice bo B.length cb] 35)) (.bool false) (.slice none 0 0)
    exact Box2.below (by simpa using this) hb1 (by simp)
  have PA : Hid (Box2 w1 w.heap.size (.bool na) (.slice ao A.length ca)) := (((Box2.new _ _ _).old _).old _).below hb1 (by simp; omega)
  have PB : Hid (Box2 w1 (w.heap.size + 1) (.bool nb) (.slice bo B.length cb)) := by
    have := (Box2.new (w.alloc (.cells #[.bool na, .slice ao A.length ca] 35)) (.bool nb) (.slice bo B.length cb)).old (.cells #[.bool false, .slice none 0 0] 35)
    exact Box2.below (by simpa using this) hb1 (by simp)
  rw [unhide H2]
  clear hb1 H2 hb0
  cases ok
  · simp only [Bool.false_eq_true, if_false]
    have y0 := r2.c0; have y1 := r2.c1; have f0 := r2.free 0; have f1 := r2.free 1
    go_wp2
    refine bodyPost_ret (v := .tuple #[.agg #[.bool false, .slice none 0 0], .int .i64 1]) (by simp [results, Try.results53, go_sem, y0, y1]) rfl ⟨.agg #[.bool false, .slice none 0 0], by rw [opErr_false], by rw [opNum_false]; exact IsNum.zero _ _ _ _, ?_⟩
    exact (hb2.setCell (by simp; omega) _).setCell (by simp; omega) _
  · obtain ⟨cA, cB⟩ := unhide HC rfl
    obtain ⟨l1, l2, hbig⟩ := unhide HL rfl
    have HBIG := hide hbig
    clear cA cB hbig HC HL
    simp only [if_true]
    by_cases hlen : 512 < A.length + B.length - 1
    · have hE := hide (unhide HBIG hlen)
      have y0 := r2.c0; have y1 := r2.c1; have f0 := r2.free 0; have f1 := r2.free 1
      have hlenI : (512 : Int) < (A.length : Int) + (B.length : Int) - 1 := by omega
      clear HBIG
      go_wp2
      refine bodyPost_ret (v := .tuple #[.agg #[.bool false, .slice none 0 0], .int .i64 2]) (by simp [results, Try.results53, go_sem, y0, y1]) rfl ⟨.agg #[.bool false, .slice none 0 0], by rw [opErr_true, (unhide hE).1], by rw [opNum_true, (unhide hE).2]; exact IsNum.zero _ _ _ _, ?_⟩
      exact (hb2.setCell (by simp; omega) _).setCell (by simp; omega) _
    have hlenI : ¬ (512 : Int) < (A.length : Int) + (B.length : Int) - 1 := by omega
    clear HBIG
    go_wp2
    refine at_world (fun W => W = w1) rfl ?_
    rintro W0 e0
    subst e0
    have x0 : Box2 W0 w.heap.size (.bool na) (.slice ao A.length ca) := unhide PA
    have x1 : Box2 W0 (w.heap.size + 1) (.bool nb) (.slice bo B.length cb) := unhide PB
    have hK : ∀ w', Below (w.heap.size + 2) W0 w' → Below (w.heap.size + 2) W0 w' ∧ w'.cell? ⟨w.heap.size, 0, none⟩ = some (.bool na) ∧ w'.cell? ⟨w.heap.size + 1, 0, none⟩ = some (.bool nb) ∧ w'.cell? ⟨w.heap.size, 1, none⟩ = some (.slice ao A.length ca) ∧ w'.cell? ⟨w.heap.size + 1, 1, none⟩ = some (.slice bo B.length cb) := fun w' h =>
      ⟨h, (x0.below h (by omega)).c0, (x1.below h (by omega)).c0, (x0.below h (by omega)).c1, (x1.below h (by omega)).c1⟩
    have HK := hide hK
    have HA := hide (hA.below hb2)
    have HB := hide (hB.below hb2)
    have X2 := hide r2
    have HW0 := hide hb2
    clear hK hA hB x0 x1 r2 hb2 p0 p1 q0 q1 PA PB
    go_region_held3 (fun w' => Below (w.heap.size + 2) W0 w' ∧ w'.cell? ⟨w.heap.size, 0, none⟩ = some (.bool na) ∧ w'.cell? ⟨w.heap.size + 1, 0, none⟩ = some (.bool nb) ∧ w'.cell? ⟨w.heap.size, 1, none⟩ = some (.slice ao A.length ca) ∧ w'.cell? ⟨w.heap.size + 1, 1, none⟩ = some (.slice bo B.length cb))
      (first | exact unhide HK _ (Below.refl _ _).drew | exact unhide HK _ (by assumption) | exact unhide HK _ ((hB2.setCell (by simp) _).setCell (by simp) _))
      (first | (go_at_call 60; refine (mulLimbs_any ao bo ca cb A B _ ((unhide HA).below ((Below.refl _ _).drew)) ((unhide HB).below ((Below.refl _ _).drew)) (by omega) (by omega)).mono ?_; rintro e w3 ⟨ao', cap', L', rfl, g1, g2, g3, g4, hb1⟩; have hB1 : Below (w.heap.size + 2) W0 w3 := ((Below.refl _ _).drew).trans (hb1.mono (by simp; omega)); have X3 := hide ((unhide X2).drew.below hb1 (by simp; omega)); have G1 := hide g1; have G2 := hide g2; have G4 := hide g4; have L4 : L'.length ≤ 35184372088832 := (by omega); have s1 := hb1.size; clear g1 g2 g4 g3 hb1) | (go_at_call 59; refine (fit_any _ (na != nb) _ _ _ _ (unhide G1) (unhide G2) L4).mono ?_; rintro e w4 ⟨v, rfl, ⟨n2, a2, c2, L2, rfl, i1⟩, hb2⟩; have hB2 : Below (w.heap.size + 2) W0 w4 := hB1.trans (hb2.mono (by simp at s1; omega)); have X4 := (unhide X3).below hb2 (by simp at s1; omega); have y0 := X4.c0; have y1 := X4.c1; have f0 := X4.free 0; have f1 := X4.free 1; have I1 := hide i1; clear i1 hb2 X4))
    have hz := unhide HSV L' (unhide G4)
    have HI := hide (hz ▸ unhide I1)
    have HE := hide (show errOf (sval (na != nb) L') = errOf z by rw [hz])
    clear hz
    go_wp2
    refine bodyPost_ret (v := .tuple #[.agg #[.bool n2, .slice a2 L2.length c2], .int .i64 (errOf (sval (na != nb) L'))]) (by simp [results, Try.results53, go_sem, y0, y1]) rfl ⟨.agg #[.bool n2, .slice a2 L2.length c2], ?_, ?_, ?_⟩
    · rw [opErr_true, unhide HE]
    · rw [opNum_true]; exact IsNum.stored (unhide HI) (by simp; omega) (by simp; omega) (by simp; omega) _ _
    · exact (((unhide HW0).trans (hB2.mono (by omega))).setCell (by simp; omega) _).setCell (by simp; omega) _
end Go.Proofs.Ytnpogpoknbgodaa

/- Contract of form. -/
namespace Go.Proofs.Ytnpogpoknbgodaa
open Go.RowKit

end Go.Proofs.Ytnpogpoknbgodaa

