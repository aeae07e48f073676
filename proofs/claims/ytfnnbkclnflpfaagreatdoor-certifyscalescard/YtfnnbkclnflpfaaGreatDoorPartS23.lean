/- Part 23 of the texts. -/
import Derived.Test.YtfnnbkclnflpfaaGreatDoorPartS22
import Derived.Maps.AppendAt
import Derived.Test.YtfnnbkclnflpfaaGreatDoorPartS01
import Derived.Test.YtfnnbkclnflpfaaGreatDoorPartS21
import Derived.Test.YtfnnbkclnflpfaaGreatDoorPartS19
/- One number more onto a list of the call's own. -/
namespace Go.Proofs.YtfnnbkclnflpfaaGreatDoor
open Go.RowKit
/-- Two lists of one's own lie apart. -/
def Apart (v u : Value) : Prop := ∀ g, v.ownBlock = some g → u.ownBlock ≠ some g
theorem Apart.symm {v u : Value} (h : Apart v u) : Apart u v := fun g h1 h2 => h g h2 h1

/-- The number x behind a list of one's own: what append does. -/
theorem OwnB.push {base : Nat} {w : World} {v : Value} {S : List Nat} (h : OwnB base w v S) (x : Nat) (hx : x < 18446744073709551616) (hl : S.length ≤ 1000000) (hb : base ≤ w.heap.size) (ty : TypeId) :
    ∃ v' w', (Builtin.append_ #[22, 22] ty #[v, .slice (some ⟨w.heap.size, 0, none⟩) 1 1]).run Tryz.prog (w.alloc (.cells #[.int .u64 (x : Int)] 52)) = .ok v' w' ∧ OwnB base w' v' (S ++ [x]) ∧ Below base w w' ∧
      (∀ u T, OwnB base w u T → Apart v u → OwnB base w' u T ∧ Apart v' u) ∧ (∀ ao c I, BitsAt w ao c I → (I = [] ∨ ∃ b off, ao = some ⟨b, off, none⟩ ∧ v.ownBlock ≠ some b) → BitsAt w' ao c I) := by
  obtain ⟨i0, hi, hz0, hz1, hz2⟩ := info_parts infoBits
  obtain ⟨v', w', e1, e2, e3, e4, e5⟩ := run_append_own_at (P := Tryz.prog) (w.alloc (.cells #[.int .u64 (x : Int)] 52)) base 22 ty 52 i0 (.int .u64 0) 1 8 Tryz.underlying22 hi hz0 hz1 hz2 rfl (by decide) v S.length (S.map bitV) (h.1.alloc _) ⟨w.heap.size, 0, none⟩ 1 1 [.int .u64 (x : Int)] rfl (cell_one_new _ _ _) (fun u hu => by simp at hu; subst hu; rfl) (by unfold maxLen; omega) (by omega) (by simp; omega)
  have hn : OwnB base w' v' (S ++ [x]) := OwnB.snoc rfl e2 h.2 hx
  refine ⟨v', w', e1, hn, ((below_alloc9 w _).mono hb).grown e3 (by simp; omega) (fun g hg => (h.1.lt g hg).1), ?_, ?_⟩
  · intro u T hu ha
    refine ⟨⟨(hu.1.alloc _).kept e3 ?_, hu.2⟩, ?_⟩
    · cases hv : u.ownBlock with
      | none => exact .inl rfl
      | some g =>
        right
        intro e
        exact ha g e.symm hv
    · intro g hg hg2
      rcases e5 with e5 | e5
      · exact ha g (by rw [← e5]; exact hg) hg2
      · rw [hg] at e5
        have h1 := (hu.1.lt g hg2).2
        simp at e5
        omega
  · intro ao c I hI hn2
    have hA := hI.below (below_alloc9 w (.cells #[.int .u64 (x : Int)] 52))
    refine ⟨hA.1, hA.2.1, ?_⟩
    rcases hA.2.2 with e | ⟨b, off, f1, f2, f3⟩
    · exact .inl e
    rcases hn2 with e | ⟨b', off', g1, g2⟩
    · exact .inl e
    rw [f1] at g1
    simp only [Option.some.injEq, Addr.mk.injEq] at g1
    obtain ⟨rfl, rfl, _⟩ := g1
    refine .inr ⟨b, off, f1, Nat.lt_of_lt_of_le f2 e3.size, fun i hi => ?_⟩
    exact e3.cell (f3 i hi) (fun e => g2 e.symm)

end Go.Proofs.YtfnnbkclnflpfaaGreatDoor

/- Rows of exact numbers that a call itself makes by appending: no limb lies in such a row. -/
namespace Go.Proofs.YtfnnbkclnflpfaaGreatDoor
open Go.RowKit

/-- Is a cell no limb? -/
def noLimb : Value → Bool
  | .int .u32 _ => false
  | _ => true

/-- The block that v lies in holds no limb. -/
def Clear (w : World) (v : Value) : Prop := ∀ g, v.ownBlock = some g → ∃ cur e, w.heap[g]? = some (.cells cur e (0, 0)) ∧ ∀ u ∈ cur.toList, noLimb u = true

theorem Clear.below {w w' : World} {v : Value} (h : Clear w v) (hb : Below w.heap.size w w') : Clear w' v := by
  intro g hg
  obtain ⟨cur, e, h1, h2⟩ := h g hg
  exact ⟨cur, e, (hb.block g (Array.getElem?_eq_some_iff.1 h1).1).trans h1, h2⟩

theorem Clear.alloc {w : World} {v : Value} (h : Clear w v) (o : Obj) : Clear (w.alloc o) v := h.below ((Below.refl _ _).alloc (Nat.le_refl _) o)

theorem Clear.nil (w : World) (n c : Nat) : Clear w (.slice none n c) := fun g hg => by cases hg

/-- Limbs lie elsewhere. -/
theorem Clear.limbs {w : World} {v : Value} (h : Clear w v) {ao : Option Addr} {cap : Nat} {L : List Nat} (hL : LimbsAt w ao cap L) : L = [] ∨ ∃ b off, ao = some ⟨b, off, none⟩ ∧ b < w.heap.size ∧ some b ≠ v.ownBlock ∧ ∀ i, i < L.length → w.cell? ⟨b, off + i, none⟩ = some (.int .u32 ((L[i]?.getD 0 : Nat) : Int)) := by
  rcases hL.2.2 with e | ⟨b, off, h1, h2, h3⟩
  · exact .inl e
  · by_cases he : L = []
    · exact .inl he
    · refine .inr ⟨b, off, h1, h2, fun hb => ?_, h3⟩
      obtain ⟨cur, e, g1, g2⟩ := h b hb.symm
      have hp : 0 < L.length := List.length_pos_iff.2 he
      have h4 := h3 0 hp
      rw [cell_of_row w b (off + 0) _ _ _ g1] at h4
      have hm := Array.mem_of_getElem? h4
      have := g2 _ (Array.mem_toList_iff.2 hm)
      cases this

/-- Limbs stay where that row grows. -/
theorem LimbsAt.grownClear {w w' : World} {v : Value} {ao : Option Addr} {cap : Nat} {L : List Nat} (hL : LimbsAt w ao cap L) (h : Clear w v) (hg : w.grownBy w' v.ownBlock) : LimbsAt w' ao cap L := by
  refine ⟨hL.1, hL.2.1, ?_⟩
  rcases h.limbs hL with e | ⟨b, off, h1, h2, h3, h4⟩
  · exact .inl e
  · refine .inr ⟨b, off, h1, Nat.lt_of_lt_of_le h2 hg.size, fun i hi => ?_⟩
    rw [World.cell?_of_block (a := ⟨b, off + i, none⟩) (hg.block b h2 h3)]
    exact h4 i hi

theorem IsNum.grownClear {B : Nat} {w w' : World} {v u : Value} {z : Int} (hu : IsNum B w u z) (h : Clear w v) (hg : w.grownBy w' v.ownBlock) : IsNum B w' u z := by
  obtain ⟨neg, ao, cap, L, h1, h2, h3⟩ := hu
  exact ⟨neg, ao, cap, L, h1, h2.grownClear h hg, h3⟩

theorem IsLv.grownClear {w w' : World} {v u : Value} {lo z : Int} (hu : IsLv w u lo z) (h : Clear w v) (hg : w.grownBy w' v.ownBlock) : IsLv w' u lo z := by
  obtain ⟨neg, ao, cap, L, h1, h2⟩ := hu
  exact ⟨neg, ao, cap, L, h1, h2.grownClear h hg⟩

theorem noLimb_zeroCells (z : Array Value) (n : Nat) (h : ∀ u ∈ z.toList, noLimb u = true) : ∀ u ∈ (Builtin.zeroCells z n).toList, noLimb u = true := by
  intro u hu
  unfold Builtin.zeroCells at hu
  rw [Array.mem_toList_iff, Array.mem_map] at hu
  obtain ⟨i, hi, rfl⟩ := hu
  have hi' : i < n * z.size := by simpa using hi
  have hz : 0 < z.size := by
    rcases Nat.eq_zero_or_pos z.size with e | e
    · rw [e] at hi'; simp at hi'
    · exact e
  have hlt : i % z.size < z.size := Nat.mod_lt _ hz
  rw [getElem!_pos z (i % z.size) hlt]
  exact h _ (Array.mem_toList_iff.2 (Array.getElem_mem hlt))

/-- An append onto such a row: it stays one. -/
theorem run_append_clear {P : Program} (w : World) (base : Nat) (t ty e : TypeId) (i : TypeInfo) (z : Value) (size bytes : Nat) (ht : P.underlying t = some (.slice e)) (hi : P.info? e = some i) (hz : i.zero = some z)
    (hsize : i.size = size) (hby : i.bytes = bytes) (hzs : z.cells.size = size) (hsz : 0 < size)
    (v : Value) (n : Nat) (xs : List Value) (hown : w.ownsRow base e size v n xs)
    (a : Addr) (m c : Nat) (news : List Value) (hl : news.length = m * size) (hnews : ∀ j u, news[j]? = some u → w.cell? (a.add j) = some u) (h1 : ∀ u ∈ news, u.oneCell' = true)
    (h63 : n + m ≤ maxLen) (hbytes : (n + m) * bytes ≤ 140737488355328) (hbase : base ≤ w.heap.size) (hm : 0 < m)
    (hcl : Clear w v) (hzc : ∀ u ∈ z.cells.toList, noLimb u = true) (hnc : ∀ u ∈ news, noLimb u = true) :
    ∃ v' w', (Builtin.append_ #[t, t] ty #[v, .slice (some a) m c]).run P w = .ok v' w' ∧ w'.ownsRow base e size v' (n + m) (xs ++ news) ∧ w.grownBy w' v.ownBlock ∧
      (v'.ownBlock = v.ownBlock ∨ v'.ownBlock = some w.heap.size) ∧ Clear w' v' := by
  obtain ⟨v', w', e1, e2, e3, _, e5⟩ := run_append_own_at (P := P) w base t ty e i z size bytes ht hi hz hsize hby hzs hsz v n xs hown a m c news hl hnews h1 h63 hbytes hbase
  refine ⟨v', w', e1, e2, e3, e5, ?_⟩
  subst hsize
  subst hby
  have hsmall : n + m ≤ 9223372036854775807 := by simp only [maxLen] at h63; omega
  have hzz := fun k => noLimb_zeroCells z.cells k hzc
  have hx : ∀ u ∈ xs, noLimb u = true := by
    rcases hown.2 with ⟨rfl, rfl⟩ | ⟨g, cap, cur, rfl, _, hg, _, _, _, htake⟩
    · intro u hu
      have : xs = [] := List.eq_nil_of_length_eq_zero (by simpa using hown.1)
      rw [this] at hu
      cases hu
    · intro u hu
      obtain ⟨cur', e', g1, g2⟩ := hcl g rfl
      rw [hg] at g1
      cases g1
      rw [← htake] at hu
      exact g2 u (List.mem_of_mem_take hu)
  rcases hown.2 with ⟨rfl, rfl⟩ | ⟨g, cap, cur, rfl, hbg, hg, hnc', hcm, hcs, htake⟩
  · have hr := run_append_nil (P := P) w t ty e i z ht hi hz a m c news hl hnews hm (by omega) (by have hb := hbytes; simp only [Nat.zero_add] at hb; omega)
    rw [e1] at hr
    cases hr
    intro g hg
    cases hg
    refine ⟨_, e, heap_alloc_new w.drew _, fun u hu => ?_⟩
    simp only [Array.toList_append, List.mem_append] at hu
    rcases hu with hu | hu
    · exact hnc u (by simpa using hu)
    · exact hzz _ u hu
  · by_cases hroom : n + m ≤ cap
    · have hfit : n * i.size + news.length ≤ cur.size := by rw [hl, hcs, ← Nat.add_mul]; exact Nat.mul_le_mul_right _ hroom
      have hr := run_append_room (P := P) w t ty e i ht hi g n cap cur hg a m c news hl hnews h1 hroom hfit
      rw [e1] at hr
      cases hr
      intro k hk
      cases hk
      refine ⟨_, e, setRow_heap w g cur _ e _ hg, fun u hu => ?_⟩
      obtain ⟨cur', e', g1, g2⟩ := hcl g rfl
      rw [hg] at g1
      cases g1
      simp only [List.mem_append] at hu
      rcases hu with (hu | hu) | hu
      · exact g2 u (List.mem_of_mem_take hu)
      · exact hnc u hu
      · exact g2 u (List.mem_of_mem_drop hu)
    · have holds : ∀ j u, xs[j]? = some u → w.cell? ((⟨g, 0, none⟩ : Addr).add j) = some u := hown.cells (g := g) rfl
      have hr := run_append_grow (P := P) w t ty e i z ht hi hz ⟨g, 0, none⟩ n cap xs hown.1 holds a m c news hl hnews (by omega) (by omega) (growslice_fits (by omega) hbytes)
      rw [e1] at hr
      cases hr
      intro k hk
      cases hk
      refine ⟨_, e, heap_alloc_new w.drew _, fun u hu => ?_⟩
      simp only [Array.toList_append, List.mem_append] at hu
      rcases hu with (hu | hu) | hu
      · exact hx u (by simpa using hu)
      · exact hnc u (by simpa using hu)
      · exact hzz _ u hu

end Go.Proofs.YtfnnbkclnflpfaaGreatDoor

/- Determinants by the first row, over whole numbers: rows are functions of the column, columns a list. No program. -/
namespace Go.Proofs.YtfnnbkclnflpfaaGreatDoor

/-- The sum over the places of cs, the sign turning: r there, times D of the rest. -/
def exD (r : Nat → Int) : List Nat → (List Nat → Int) → Int
  | [], _ => 0
  | c :: cs, D => r c * D cs - exD r cs (fun l => D (c :: l))

def detD : List (Nat → Int) → List Nat → Int
  | [], _ => 1
  | r :: rs, cs => exD r cs (detD rs)

theorem exD_congr (r : Nat → Int) : ∀ (cs : List Nat) (D E : List Nat → Int), (∀ l, l.Sublist cs → l.length + 1 = cs.length → D l = E l) → exD r cs D = exD r cs E
  | [], _, _, _ => rfl
  | c :: cs, D, E, h => by
    unfold exD
    rw [h cs (List.sublist_cons_self c cs) rfl, exD_congr r cs (fun l => D (c :: l)) (fun l => E (c :: l)) (fun l h1 h2 => h (c :: l) (h1.cons_cons c) (by simp; omega))]

theorem exD_row (r s : Nat → Int) : ∀ (cs : List Nat) (D : List Nat → Int), (∀ c ∈ cs, r c = s c) → exD r cs D = exD s cs D
  | [], _, _ => rfl
  | c :: cs, D, h => by
    unfold exD
    rw [h c (by simp), exD_row r s cs _ (fun c hc => h c (by simp [hc]))]

theorem exD_lin (r : Nat → Int) (p q : Int) : ∀ (cs : List Nat) (D E : List Nat → Int), exD r cs (fun l => p * D l + q * E l) = p * exD r cs D + q * exD r cs E
  | [], _, _ => by simp [exD]
  | c :: cs, D, E => by
    unfold exD
    rw [exD_lin r p q cs (fun l => D (c :: l)) (fun l => E (c :: l))]
    grind

theorem exD_smul (r : Nat → Int) (p : Int) (cs : List Nat) (D : List Nat → Int) : exD r cs (fun l => p * D l) = p * exD r cs D := by
  have := exD_lin r p 0 cs D D
  simpa using this

theorem exD_linrow (r s : Nat → Int) (p q : Int) : ∀ (cs : List Nat) (D : List Nat → Int), exD (fun c => p * r c + q * s c) cs D = p * exD r cs D + q * exD s cs D
  | [], _ => by simp [exD]
  | c :: cs, D => by
    unfold exD
    rw [exD_linrow r s p q cs (fun l => D (c :: l))]
    grind

theorem exD_zero (r : Nat → Int) (cs : List Nat) : exD r cs (fun _ => 0) = 0 := by
  have := exD_smul r 0 cs (fun _ => 0)
  simpa using this

/-- Two sums change places. -/
theorem exD_fubini (r s : Nat → Int) : ∀ (cs ks : List Nat) (F : List Nat → List Nat → Int), exD r cs (fun l => exD s ks (fun m => F l m)) = exD s ks (fun m => exD r cs (fun l => F l m))
  | [], ks, F => (exD_zero s ks).symm
  | c :: cs, ks, F => by
    have h := exD_lin s (r c) (-1) ks (fun m => F cs m) (fun m => exD r cs (fun l => F (c :: l) m))
    have e : exD s ks (fun m => exD r (c :: cs) (fun l => F l m)) = exD s ks (fun m => r c * F cs m + -1 * exD r cs (fun l => F (c :: l) m)) := by
      congr 1
      funext m
      show r c * F cs m - exD r cs (fun l => F (c :: l) m) = _
      omega
    rw [e, h, ← exD_fubini r s cs ks (fun l m => F (c :: l) m)]
    show r c * exD s ks (fun m => F cs m) - exD r cs (fun l => exD s ks (fun m => F (c :: l) m)) = _
    omega

/-- Two rows that follow one another change places: the sign turns. -/
theorem exD_swap (r s : Nat → Int) : ∀ (cs : List Nat) (D : List Nat → Int), exD r cs (fun l => exD s l D) = - exD s cs (fun l => exD r l D)
  | [], _ => by simp [exD]
  | c :: cs, D => by
    have step : ∀ r s : Nat → Int, exD r (c :: cs) (fun l => exD s l D) = r c * exD s cs D - s c * exD r cs D + exD r cs (fun l => exD s l (fun m => D (c :: m))) := by
      intro r s
      have e : exD r cs (fun l => exD s (c :: l) D) = s c * exD r cs D + -1 * exD r cs (fun l => exD s l (fun m => D (c :: m))) := by
        rw [← exD_lin]
        congr 1
        funext l
        show s c * D l - exD s l (fun m => D (c :: m)) = _
        omega
      show r c * exD s cs D - exD r cs (fun l => exD s (c :: l) D) = _
      rw [e]
      omega
    rw [step r s, step s r, exD_swap r s cs (fun m => D (c :: m))]
    omega

theorem detD_cons (r : Nat → Int) (rs : List (Nat → Int)) (cs : List Nat) : detD (r :: rs) cs = exD r cs (detD rs) := rfl

theorem detD_swap (r s : Nat → Int) (rs : List (Nat → Int)) (cs : List Nat) : detD (r :: s :: rs) cs = - detD (s :: r :: rs) cs := by
  show exD r cs (fun l => exD s l (detD rs)) = - exD s cs (fun l => exD r l (detD rs))
  exact exD_swap r s cs (detD rs)

theorem detD_same (r : Nat → Int) (rs : List (Nat → Int)) (cs : List Nat) : detD (r :: r :: rs) cs = 0 := by
  have := detD_swap r r rs cs
  omega

/-- What holds behind a beginning holds with it: a factor. -/
theorem detD_pre (p : Int) (rs ss : List (Nat → Int)) (h : ∀ cs, detD rs cs = p * detD ss cs) : ∀ (pre : List (Nat → Int)) (cs : List Nat), detD (pre ++ rs) cs = p * detD (pre ++ ss) cs
  | [], cs => h cs
  | r :: pre, cs => by
    show exD r cs (detD (pre ++ rs)) = p * exD r cs (detD (pre ++ ss))
    rw [← exD_smul]
    congr 1
    funext l
    exact detD_pre p rs ss h pre l

/-- The other order of rows: the same but for the sign. -/
theorem detD_perm {rs ss : List (Nat → Int)} (h : rs.Perm ss) : ∃ p : Int, (p = 1 ∨ p = -1) ∧ ∀ cs, detD rs cs = p * detD ss cs := by
  induction h with
  | nil => exact ⟨1, .inl rfl, fun cs => by simp⟩
  | cons r _ ih =>
    obtain ⟨p, hp, h⟩ := ih
    exact ⟨p, hp, fun cs => detD_pre p _ _ h [r] cs⟩
  | swap r s l => exact ⟨-1, .inr rfl, fun cs => by rw [detD_swap s r l cs]; omega⟩
  | trans _ _ ih1 ih2 =>
    obtain ⟨p, hp, h⟩ := ih1
    obtain ⟨q, hq, g⟩ := ih2
    refine ⟨p * q, ?_, fun cs => by rw [h cs, g cs, Int.mul_assoc]⟩
    rcases hp with rfl | rfl <;> rcases hq with rfl | rfl <;> simp

/-- A row that stands twice: 0. -/
theorem detD_twice (r : Nat → Int) (rs : List (Nat → Int)) (pre mid : List (Nat → Int)) (cs : List Nat) : detD (pre ++ r :: (mid ++ r :: rs)) cs = 0 := by
  have hp : (pre ++ r :: (mid ++ r :: rs)).Perm (r :: r :: (pre ++ (mid ++ rs))) := by
    have h1 : (mid ++ r :: rs).Perm (r :: (mid ++ rs)) := List.perm_middle
    have h2 : (pre ++ r :: (mid ++ r :: rs)).Perm (r :: (pre ++ (mid ++ r :: rs))) := List.perm_middle
    refine h2.trans (List.Perm.cons r ?_)
    refine (List.Perm.append_left pre h1).trans ?_
    exact List.perm_middle
  obtain ⟨p, _, h⟩ := detD_perm hp
  rw [h cs, detD_same]
  simp

/-- A row that is a sum: at any place. -/
theorem detD_lin (r s : Nat → Int) (p q : Int) (rs : List (Nat → Int)) : ∀ (pre : List (Nat → Int)) (cs : List Nat), detD (pre ++ (fun c => p * r c + q * s c) :: rs) cs = p * detD (pre ++ r :: rs) cs + q * detD (pre ++ s :: rs) cs
  | [], cs => exD_linrow r s p q cs (detD rs)
  | t :: pre, cs => by
    show exD t cs (detD (pre ++ (fun c => p * r c + q * s c) :: rs)) = p * exD t cs (detD (pre ++ r :: rs)) + q * exD t cs (detD (pre ++ s :: rs))
    rw [← exD_lin]
    congr 1
    funext l
    exact detD_lin r s p q rs pre l

/-- The last row brought to the front. -/
theorem detD_last (r : Nat → Int) : ∀ (rs : List (Nat → Int)) (cs : List Nat), detD (rs ++ [r]) cs = (-1) ^ rs.length * detD (r :: rs) cs
  | [], cs => by simp
  | s :: rs, cs => by
    have h : detD (s :: (rs ++ [r])) cs = (-1) ^ rs.length * detD (s :: r :: rs) cs := detD_pre _ (rs ++ [r]) (r :: rs) (fun cs => detD_last r rs cs) [s] cs
    show detD (s :: (rs ++ [r])) cs = _
    rw [h, detD_swap s r rs cs, List.length_cons, Int.pow_succ]
    grind

/-- Rows turned into columns: the same. -/
theorem detD_turn (a : Nat → Nat → Int) : ∀ (n : Nat) (R C : List Nat), R.length = n → C.length = n → detD (R.map (fun i => fun j => a i j)) C = detD (C.map (fun j => fun i => a i j)) R
  | 0, R, C, hR, hC => by
    obtain rfl := List.length_eq_zero_iff.1 hR
    obtain rfl := List.length_eq_zero_iff.1 hC
    rfl
  | 1, [i], [j], _, _ => by simp [detD, exD]
  | n + 2, i :: R, j :: C, hR, hC => by
    have ihs : ∀ R C : List Nat, R.length = n + 1 → C.length = n + 1 → detD (R.map (fun i => fun j => a i j)) C = detD (C.map (fun j => fun i => a i j)) R := detD_turn a (n + 1)
    have ih0 : ∀ R C : List Nat, R.length = n → C.length = n → detD (R.map (fun i => fun j => a i j)) C = detD (C.map (fun j => fun i => a i j)) R := detD_turn a n
    simp only [List.length_cons] at hR hC
    show exD (a i) (j :: C) (detD (R.map (fun i => fun j => a i j))) = exD (fun i => a i j) (i :: R) (detD (C.map (fun j => fun i => a i j)))
    unfold exD
    have hA : exD (a i) C (fun l => detD (R.map (fun i => fun j => a i j)) (j :: l)) = exD (a i) C (fun l => exD (fun i => a i j) R (fun k => detD (k.map (fun i => fun j => a i j)) l)) := by
      refine exD_congr _ _ _ _ (fun l hl hlen => ?_)
      rw [ihs R (j :: l) (by omega) (by simp; omega)]
      show exD (fun i => a i j) R (detD (l.map (fun j => fun i => a i j))) = _
      refine exD_congr _ _ _ _ (fun k hk hkl => ?_)
      exact (ih0 k l (by omega) (by omega)).symm
    have hB : exD (fun i => a i j) R (fun l => detD (C.map (fun j => fun i => a i j)) (i :: l)) = exD (fun i => a i j) R (fun k => exD (a i) C (fun l => detD (k.map (fun i => fun j => a i j)) l)) := by
      refine exD_congr _ _ _ _ (fun k hk hkl => ?_)
      rw [← ihs (i :: k) C (by simp; omega) (by omega)]
      rfl
    rw [hA, hB, exD_fubini, ihs R C (by omega) (by omega)]

end Go.Proofs.YtfnnbkclnflpfaaGreatDoor

/- Minors and the rank, over whole numbers. No program. -/
namespace Go.Proofs.YtfnnbkclnflpfaaGreatDoor

/-- Places that rise, all below m. -/
def Rise (m : Nat) (I : List Nat) : Prop := I.Pairwise (· < ·) ∧ ∀ i ∈ I, i < m

/-- The minor of the rows I and the columns C. -/
def minorD (a : Nat → Nat → Int) (I C : List Nat) : Int := detD (I.map a) C

/-- All minors of k rows and columns are 0. -/
def Van (k : Nat) (a : Nat → Nat → Int) (m n : Nat) : Prop := ∀ I C, Rise m I → Rise n C → I.length = k → C.length = k → minorD a I C = 0

/-- r is the rank. -/
def IsRank (r : Nat) (a : Nat → Nat → Int) (m n : Nat) : Prop := ¬ Van r a m n ∧ Van (r + 1) a m n

theorem Rise.sub {m : Nat} {I J : List Nat} (h : Rise m I) (hs : J.Sublist I) : Rise m J := ⟨h.1.sublist hs, fun i hi => h.2 i (hs.subset hi)⟩

theorem Van.succ {k : Nat} {a : Nat → Nat → Int} {m n : Nat} (h : Van k a m n) : Van (k + 1) a m n := by
  intro I C hI hC lI lC
  cases I with
  | nil => simp at lI
  | cons i I =>
    show exD (a i) C (detD (I.map a)) = 0
    rw [exD_congr (a i) C (detD (I.map a)) (fun _ => 0) (fun l hl hlen => ?_), exD_zero]
    simp only [List.length_cons] at lI
    exact h I l (hI.sub (List.sublist_cons_self i I)) (hC.sub hl) (by omega) (by omega)

theorem Van.le {k j : Nat} {a : Nat → Nat → Int} {m n : Nat} (h : Van k a m n) (hj : k ≤ j) : Van j a m n := by
  obtain ⟨d, rfl⟩ : ∃ d, j = k + d := ⟨j - k, by omega⟩
  clear hj
  induction d with
  | zero => exact h
  | succ d ih => exact ih.succ

theorem IsRank.unique {r s : Nat} {a : Nat → Nat → Int} {m n : Nat} (h : IsRank r a m n) (g : IsRank s a m n) : r = s := by
  rcases Nat.lt_trichotomy r s with hlt | e | hlt
  · exact absurd (h.2.le hlt) g.1
  · exact e
  · exact absurd (g.2.le hlt) h.1

theorem dup_split : ∀ (I : List Nat), ¬ I.Nodup → ∃ pre i mid post, I = pre ++ i :: (mid ++ i :: post)
  | [], h => absurd List.nodup_nil h
  | i :: I, h => by
    by_cases hi : i ∈ I
    · obtain ⟨s, t, rfl⟩ := List.append_of_mem hi
      exact ⟨[], i, s, t, rfl⟩
    · have : ¬ I.Nodup := fun hn => h (List.nodup_cons.2 ⟨hi, hn⟩)
      obtain ⟨pre, j, mid, post, e⟩ := dup_split I this
      exact ⟨i :: pre, j, mid, post, by rw [e]; rfl⟩

/-- All minors vanish, the rows in whatever order, also if some stand twice. -/
theorem Van.all {k : Nat} {a : Nat → Nat → Int} {m n : Nat} (h : Van k a m n) (I C : List Nat) (hI : ∀ i ∈ I, i < m) (hC : Rise n C) (lI : I.length = k) (lC : C.length = k) : minorD a I C = 0 := by
  by_cases hn : I.Nodup
  · have hp : (I.mergeSort (fun x y => decide (x ≤ y))).Perm I := List.mergeSort_perm I _
    have hs : (I.mergeSort (fun x y => decide (x ≤ y))).Pairwise (fun x y => decide (x ≤ y) = true) := List.pairwise_mergeSort (fun x y z h1 h2 => by simp at *; omega) (fun x y => by simp; omega) I
    have hn' : (I.mergeSort (fun x y => decide (x ≤ y))).Nodup := hp.nodup_iff.2 hn
    have hr : Rise m (I.mergeSort (fun x y => decide (x ≤ y))) := by
      refine ⟨?_, fun i hi => hI i (hp.mem_iff.1 hi)⟩
      have h2 := List.Pairwise.and hs hn'
      exact h2.imp (fun h => by simp at h; omega)
    obtain ⟨p, _, hd⟩ := detD_perm (hp.map a)
    have h0 := h _ C hr hC (by rw [hp.length_eq]; exact lI) lC
    unfold minorD at h0 ⊢
    have h1 := hd C
    rw [h0] at h1
    rcases (show p = 1 ∨ p = -1 by assumption) with rfl | rfl <;> omega
  · obtain ⟨pre, i, mid, post, rfl⟩ := dup_split I hn
    unfold minorD
    simp only [List.map_append, List.map_cons]
    exact detD_twice (a i) (post.map a) (pre.map a) (mid.map a) C

/-- Rows that are sums of one of a's and of a's d-th: no new minors. -/
theorem van_rows {k m n d : Nat} {a b : Nat → Nat → Int} (hd : d < m) (p q : Nat → Int) (h : ∀ i, i < m → ∀ c, b i c = p i * a i c + q i * a d c) (hv : Van k a m n) : Van k b m n := by
  intro I C hI hC lI lC
  have key : ∀ (J pre : List Nat), (∀ i ∈ pre, i < m) → (∀ i ∈ J, i < m) → pre.length + J.length = k → detD (pre.map a ++ J.map b) C = 0 := by
    intro J
    induction J with
    | nil =>
      intro pre hp _ hl
      simp only [List.map_nil, List.append_nil]
      exact hv.all pre C hp hC (by simpa using hl) lC
    | cons i J ih =>
      intro pre hp hJ hl
      have hb : b i = fun c => p i * a i c + q i * a d c := by funext c; exact h i (hJ i (by simp)) c
      rw [List.map_cons, hb, detD_lin]
      have e1 := ih (pre ++ [i]) (fun j hj => by rcases List.mem_append.1 hj with hj | hj; exact hp j hj; simp at hj; subst hj; exact hJ j (by simp)) (fun j hj => hJ j (by simp [hj])) (by simp at hl ⊢; omega)
      have e2 := ih (pre ++ [d]) (fun j hj => by rcases List.mem_append.1 hj with hj | hj; exact hp j hj; simp at hj; subst hj; exact hd) (fun j hj => hJ j (by simp [hj])) (by simp at hl ⊢; omega)
      simp only [List.map_append, List.map_cons, List.map_nil, List.append_assoc, List.singleton_append] at e1 e2
      rw [e1, e2]
      simp
  have := key I [] (by simp) hI.2 (by simpa using lI)
  simpa [minorD] using this

/-- The other way: where no factor is 0, nothing is lost. -/
theorem van_back {k m n d : Nat} {a b : Nat → Nat → Int} (hd : d < m) (p q : Nat → Int) (h : ∀ i, i < m → ∀ c, p i * a i c = b i c + q i * b d c) (hp0 : ∀ i, i < m → p i ≠ 0) (hv : Van k b m n) : Van k a m n := by
  intro I C hI hC lI lC
  have key : ∀ (J pre : List Nat), (∀ i ∈ pre, i < m) → (∀ i ∈ J, i < m) → pre.length + J.length = k → detD (pre.map b ++ J.map a) C = 0 := by
    intro J
    induction J with
    | nil =>
      intro pre hp _ hl
      simp only [List.map_nil, List.append_nil]
      exact hv.all pre C hp hC (by simpa using hl) lC
    | cons i J ih =>
      intro pre hp hJ hl
      have hi : i < m := hJ i (by simp)
      have e1 := ih (pre ++ [i]) (fun j hj => by rcases List.mem_append.1 hj with hj | hj; exact hp j hj; simp at hj; subst hj; exact hi) (fun j hj => hJ j (by simp [hj])) (by simp at hl ⊢; omega)
      have e2 := ih (pre ++ [d]) (fun j hj => by rcases List.mem_append.1 hj with hj | hj; exact hp j hj; simp at hj; subst hj; exact hd) (fun j hj => hJ j (by simp [hj])) (by simp at hl ⊢; omega)
      simp only [List.map_append, List.map_cons, List.map_nil, List.append_assoc, List.singleton_append] at e1 e2
      have f1 := detD_lin (b i) (b d) 1 (q i) (J.map a) (pre.map b) C
      have f2 := detD_lin (a i) (a i) (p i) 0 (J.map a) (pre.map b) C
      have hrow : (fun c => p i * a i c + 0 * a i c) = (fun c => 1 * b i c + q i * b d c) := by
        funext c
        have := h i hi c
        omega
      rw [hrow, f1, e1, e2] at f2
      have f3 : p i * detD (pre.map b ++ a i :: J.map a) C = 0 := by omega
      rcases Int.mul_eq_zero.1 f3 with e | e
      · exact absurd e (hp0 i hi)
      · simpa using e
  have := key I [] (by simp) hI.2 (by simpa using lI)
  simpa [minorD] using this

/-- A row that is 0 at the columns asked for. -/
theorem exD_nought (r : Nat → Int) (cs : List Nat) (D : List Nat → Int) (h : ∀ c ∈ cs, r c = 0) : exD r cs D = 0 := by
  rw [exD_row r (fun _ => 0) cs D h]
  induction cs generalizing D with
  | nil => rfl
  | cons c cs ih =>
    unfold exD
    rw [ih _ (fun c hc => h c (by simp [hc]))]
    simp

theorem detD_nought (r : Nat → Int) (rs : List (Nat → Int)) (cs : List Nat) (h : ∀ c ∈ cs, r c = 0) : ∀ pre : List (Nat → Int), detD (pre ++ r :: rs) cs = 0 := by
  intro pre
  have hp : (pre ++ r :: rs).Perm (r :: (pre ++ rs)) := List.perm_middle
  obtain ⟨p, _, hd⟩ := detD_perm hp
  rw [hd cs]
  show p * exD r cs (detD (pre ++ rs)) = 0
  rw [exD_nought r cs _ h]
  simp

theorem rise_long {m r : Nat} : ∀ (I : List Nat) (b : Nat), I.Pairwise (· < ·) → (∀ i ∈ I, b ≤ i) → r < b + I.length → I ≠ [] → ∃ i ∈ I, r ≤ i
  | [], _, _, _, _, h => absurd rfl h
  | [i], b, _, hb, hl, _ => ⟨i, by simp, by have := hb i (by simp); simp at hl; omega⟩
  | i :: j :: I, b, hp, hb, hl, _ => by
    have hp2 := List.pairwise_cons.1 hp
    obtain ⟨k, hk, hr⟩ := rise_long (m := m) (r := r) (j :: I) (b + 1) hp2.2 (fun t ht => by have := hp2.1 t ht; have := hb i (by simp); omega) (by simp at hl ⊢; omega) (by simp)
    exact ⟨k, by simp [hk], hr⟩

/-- Rows from r on that are 0: no minor of more than r rows. -/
theorem van_low {m n r : Nat} {a : Nat → Nat → Int} (h : ∀ i, r ≤ i → i < m → ∀ c, c < n → a i c = 0) : Van (r + 1) a m n := by
  intro I C hI hC lI _
  obtain ⟨i, hi, hr⟩ := rise_long (m := m) (r := r) I 0 hI.1 (fun _ _ => Nat.zero_le _) (by omega) (by intro e; subst e; simp at lI)
  obtain ⟨s, t, rfl⟩ := List.append_of_mem hi
  unfold minorD
  simp only [List.map_append, List.map_cons]
  exact detD_nought (a i) _ C (fun c hc => h i hr (hI.2 i hi) c (hC.2 c hc)) _

/-- The product of what stands on the stairs. -/
def stairs (a : Nat → Nat → Int) : List Nat → List Nat → Int
  | i :: I, c :: C => a i c * stairs a I C
  | _, _ => 1

/-- Nothing below the stairs: the minor is their product. -/
theorem minor_stairs (a : Nat → Nat → Int) : ∀ (I C : List Nat), I.length = C.length → (∀ I1 i I2 C1 c C2, I = I1 ++ i :: I2 → C = C1 ++ c :: C2 → I1.length = C1.length → ∀ j ∈ I2, a j c = 0) → detD (C.map (fun c i => a i c)) I = stairs a I C
  | [], [], _, _ => rfl
  | i :: I, c :: C, hl, h => by
    simp only [List.length_cons, Nat.add_right_cancel_iff] at hl
    have h0 := h [] i I [] c C rfl rfl rfl
    show exD (fun i => a i c) (i :: I) (detD (C.map (fun c i => a i c))) = a i c * stairs a I C
    unfold exD
    rw [exD_nought (fun i => a i c) I _ h0, minor_stairs a I C hl (fun I1 j I2 C1 d C2 e1 e2 e3 => h (i :: I1) j I2 (c :: C1) d C2 (by rw [e1]; rfl) (by rw [e2]; rfl) (by simp [e3]))]
    omega

theorem stairs_ne (a : Nat → Nat → Int) : ∀ (I C : List Nat), I.length = C.length → (∀ I1 i I2 C1 c C2, I = I1 ++ i :: I2 → C = C1 ++ c :: C2 → I1.length = C1.length → a i c ≠ 0) → stairs a I C ≠ 0
  | [], [], _, _ => by simp [stairs]
  | i :: I, c :: C, hl, h => by
    simp only [List.length_cons, Nat.add_right_cancel_iff] at hl
    have h0 := h [] i I [] c C rfl rfl rfl
    have h1 := stairs_ne a I C hl (fun I1 j I2 C1 d C2 e1 e2 e3 => h (i :: I1) j I2 (c :: C1) d C2 (by rw [e1]; rfl) (by rw [e2]; rfl) (by simp [e3]))
    intro e
    rcases Int.mul_eq_zero.1 (show a i c * stairs a I C = 0 from e) with e | e
    · exact h0 e
    · exact h1 e

theorem rise_range (n : Nat) : Rise n (List.range n) := ⟨List.pairwise_lt_range, fun _ hi => List.mem_range.1 hi⟩

/-- Stairs of P's columns in the first rows, nothing below them, nothing from row r on: r is the rank. -/
theorem rank_stairs {m n : Nat} {a : Nat → Nat → Int} (P : List Nat) (hP : Rise n P) (hm : P.length ≤ m) (h0 : ∀ j, j < P.length → a j (P[j]?.getD 0) ≠ 0) (h1 : ∀ j i, j < P.length → j < i → i < m → a i (P[j]?.getD 0) = 0) (h2 : ∀ i, P.length ≤ i → i < m → ∀ c, c < n → a i c = 0) : IsRank P.length a m n := by
  refine ⟨fun hv => ?_, van_low h2⟩
  have hr : Rise m (List.range P.length) := ⟨(rise_range _).1, fun i hi => by have := (rise_range P.length).2 i hi; omega⟩
  have hz := hv (List.range P.length) P hr hP (by simp) rfl
  unfold minorD at hz
  rw [detD_turn a P.length (List.range P.length) P (by simp) rfl] at hz
  have at_pl : ∀ I1 i I2 C1 c C2, List.range P.length = I1 ++ i :: I2 → P = C1 ++ c :: C2 → I1.length = C1.length → i = I1.length ∧ I1.length < P.length ∧ P[I1.length]?.getD 0 = c ∧ ∀ j ∈ I2, I1.length < j ∧ j < P.length := by
    intro I1 i I2 C1 c C2 e1 e2 e3
    have hi : (List.range P.length)[I1.length]? = some i := by rw [e1]; simp
    have hc : P[I1.length]? = some c := by rw [e2, e3]; simp
    have hlt : I1.length < P.length := by
      rcases Nat.lt_or_ge I1.length P.length with h | h
      · exact h
      · rw [List.getElem?_eq_none h] at hc; simp at hc
    have hi' : i = I1.length := by
      rw [List.getElem?_range hlt] at hi
      exact (Option.some.inj hi).symm
    refine ⟨hi', hlt, by rw [hc]; rfl, fun j hj => ?_⟩
    have hp := (rise_range P.length).1
    rw [e1, List.pairwise_append] at hp
    have := (List.pairwise_cons.1 hp.2.1).1 j hj
    have hj2 : j ∈ List.range P.length := by rw [e1]; simp [hj]
    exact ⟨by omega, List.mem_range.1 hj2⟩
  rw [minor_stairs a (List.range P.length) P (by simp) (fun I1 i I2 C1 c C2 e1 e2 e3 j hj => by
    obtain ⟨g1, g2, g3, g4⟩ := at_pl I1 i I2 C1 c C2 e1 e2 e3
    rw [← g3]
    exact h1 I1.length j g2 (g4 j hj).1 (by have := (g4 j hj).2; omega))] at hz
  refine stairs_ne a (List.range P.length) P (by simp) (fun I1 i I2 C1 c C2 e1 e2 e3 => ?_) hz
  obtain ⟨g1, g2, g3, g4⟩ := at_pl I1 i I2 C1 c C2 e1 e2 e3
  rw [g1, ← g3]
  exact h0 I1.length g2

end Go.Proofs.YtfnnbkclnflpfaaGreatDoor

/- Matrices as lists, row by row: made, written place by place, turned, put together; products; no program. Ahead of stage 10. -/
namespace Go.Proofs.YtfnnbkclnflpfaaGreatDoor
open Go.RowKit

/-- A matrix that a function makes, row by row. -/
def mkM (r c : Nat) (f : Nat → Nat → Nat) : List Nat := (List.range (r * c)).map (fun p => f (p / c) (p % c))

theorem place_lt {r c i k : Nat} (hi : i < r) (hk : k < c) : i * c + k < r * c := by
  have h1 : (i + 1) * c ≤ r * c := Nat.mul_le_mul_right c hi
  rw [Nat.add_mul, Nat.one_mul] at h1
  omega
theorem place_div {c i k : Nat} (hk : k < c) : (i * c + k) / c = i := by
  rw [Nat.add_comm, Nat.add_mul_div_right _ _ (by omega), Nat.div_eq_of_lt hk, Nat.zero_add]
theorem place_mod {c i k : Nat} (hk : k < c) : (i * c + k) % c = k := by
  rw [Nat.add_comm, Nat.add_mul_mod_self_right, Nat.mod_eq_of_lt hk]
theorem place_in {r c p : Nat} (h : p < r * c) : p / c < r ∧ p % c < c ∧ p / c * c + p % c = p := by
  have c0 : 0 < c := by
    rcases Nat.eq_zero_or_pos c with e | e
    · subst e; omega
    · exact e
  refine ⟨(Nat.div_lt_iff_lt_mul c0).2 h, Nat.mod_lt _ c0, ?_⟩
  have := Nat.div_add_mod p c
  rw [Nat.mul_comm] at this
  exact this
theorem place_inj {c i k x y : Nat} (hk : k < c) (hy : y < c) : i * c + k = x * c + y ↔ i = x ∧ k = y := by
  constructor
  · intro h
    have h1 := place_div (i := i) hk
    have h2 := place_mod (i := i) hk
    rw [h, place_div hy] at h1
    rw [h, place_mod hy] at h2
    exact ⟨h1.symm, h2.symm⟩
  · rintro ⟨rfl, rfl⟩; rfl

theorem mkM_len (r c : Nat) (f : Nat → Nat → Nat) : (mkM r c f).length = r * c := by simp [mkM]
theorem mkM_get (r c : Nat) (f : Nat → Nat → Nat) (p : Nat) (h : p < r * c) : (mkM r c f)[p]? = some (f (p / c) (p % c)) := by simp [mkM, h]
theorem mkM_at (r c : Nat) (f : Nat → Nat → Nat) {i k : Nat} (hi : i < r) (hk : k < c) : (mkM r c f)[i * c + k]? = some (f i k) := by
  rw [mkM_get _ _ _ _ (place_lt hi hk), place_div hk, place_mod hk]
theorem mkM_atD (r c : Nat) (f : Nat → Nat → Nat) {i k : Nat} (hi : i < r) (hk : k < c) : (mkM r c f).getD (i * c + k) 0 = f i k := by
  rw [List.getD_eq_getElem?_getD, mkM_at r c f hi hk]; rfl
theorem mkM_congr {r c : Nat} {f g : Nat → Nat → Nat} (h : ∀ i k, i < r → k < c → f i k = g i k) : mkM r c f = mkM r c g := by
  unfold mkM
  refine List.map_congr_left (fun p hp => ?_)
  obtain ⟨h1, h2, _⟩ := place_in (List.mem_range.1 hp)
  exact h _ _ h1 h2
/-- Any list of as many numbers as a matrix has places. -/
theorem mkM_of (r c : Nat) (S : List Nat) (h : S.length = r * c) : mkM r c (fun i k => S.getD (i * c + k) 0) = S := by
  refine List.ext_getElem? (fun p => ?_)
  rcases Nat.lt_or_ge p (r * c) with g | g
  · rw [mkM_get _ _ _ _ g, (place_in g).2.2, List.getD_eq_getElem?_getD, List.getElem?_eq_getElem (by omega)]; rfl
  · rw [List.getElem?_eq_none (by rw [mkM_len]; exact g), List.getElem?_eq_none (by omega)]
/-- Another number at a place. -/
theorem mkM_set (r c : Nat) (g : Nat → Nat → Nat) (v : Nat) {i k : Nat} (_ : i < r) (hk : k < c) : (mkM r c g).set (i * c + k) v = mkM r c (fun x y => if x = i ∧ y = k then v else g x y) := by
  refine List.ext_getElem? (fun p => ?_)
  rcases Nat.lt_or_ge p (r * c) with h | h
  · obtain ⟨h1, h2, h3⟩ := place_in h
    rw [mkM_get _ _ _ _ h, List.getElem?_set]
    have e : (i * c + k = p) ↔ (p / c = i ∧ p % c = k) := by
      rw [← h3, place_inj hk h2, h3]
      exact ⟨fun ⟨a, b⟩ => ⟨a.symm, b.symm⟩, fun ⟨a, b⟩ => ⟨a.symm, b.symm⟩⟩
    by_cases q : i * c + k = p
    · rw [if_pos q, if_pos (by rw [mkM_len]; omega), if_pos (e.1 q)]
    · rw [if_neg q, if_neg (fun z => q (e.2 z)), mkM_get _ _ _ _ h]
  · rw [List.getElem?_eq_none (by simpa [mkM_len] using h), List.getElem?_eq_none (by rw [mkM_len]; exact h)]

/-- The number of a place; a matrix turned; a part; one beside the other. -/
def elM (c : Nat) (S : List Nat) (i k : Nat) : Nat := S.getD (i * c + k) 0
theorem el_mk (r c : Nat) (f : Nat → Nat → Nat) {i k : Nat} (hi : i < r) (hk : k < c) : elM c (mkM r c f) i k = f i k := mkM_atD r c f hi hk

end Go.Proofs.YtfnnbkclnflpfaaGreatDoor

