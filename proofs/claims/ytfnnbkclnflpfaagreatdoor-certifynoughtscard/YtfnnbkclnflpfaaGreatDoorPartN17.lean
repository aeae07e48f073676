/- Part 17 of the texts. -/
import Derived.Test.YtfnnbkclnflpfaaGreatDoorPartN16
import Derived.Test.YtfnnbkclnflpfaaGreatDoorPartN01
import Derived.Test.YtfnnbkclnflpfaaGreatDoorPartN15
import Derived.Test.YtfnnbkclnflpfaaGreatDoorPartN13
import Derived.Test.YtfnnbkclnflpfaaGreatDoorPartN12
import Derived.Deep.Cut
import Derived.Test.YtfnnbkclnflpfaaGreatDoorPartN08
import Derived.Deep.RegionLaw
import Derived.Test.YtfnnbkclnflpfaaGreatDoorPartN06
import Derived.Test.YtfnnbkclnflpfaaGreatDoorPartN07
import Derived.Lib.BitFns
import Derived.Laws.BitsAllLaws
import Derived.Test.YtfnnbkclnflpfaaGreatDoorPartN14
import Derived.Deep.RegionHeld3
import Derived.Laws.Cover2
import Derived.Laws.Externs
import Derived.Test.YtfnnbkclnflpfaaGreatDoorPartN04
import Derived.Laws.FloatArith
/- Rows of exact numbers that a call itself makes by appending: no limb lies in such a row. -/
namespace Go.Proofs.YtfnnbkclnflpfaaGreatDoor
open Go.RowKit

/-- Is a cell no limb? -/
def noLimb : Value → Bool
  | .int .u32 _ => false
  | _ => true

/-- The block that v lies in holds no limb. -/
def Clear (w : World) (v : Value) : Prop := ∀ g, v.ownBlock = some g → ∃ cur e, w.heap[g]? = some (.cells cur e (0, 0)) ∧ ∀ u ∈ cur.toList, noLimb u = true

theorem Clear.below {w w' : World} {v : Value} (h : Clear w v) (hb : Below w.heap.size w w') : Clear w' v := by
  intro g hg
  obtain ⟨cur, e, h1, h2⟩ := h g hg
  exact ⟨cur, e, (hb.block g (Array.getElem?_eq_some_iff.1 h1).1).trans h1, h2⟩

theorem Clear.alloc {w : World} {v : Value} (h : Clear w v) (o : Obj) : Clear (w.alloc o) v := h.below ((Below.refl _ _).alloc (Nat.le_refl _) o)

theorem Clear.nil (w : World) (n c : Nat) : Clear w (.slice none n c) := fun g hg => by cases hg

/-- Limbs lie elsewhere. -/
theorem Clear.limbs {w : World} {v : Value} (h : Clear w v) {ao : Option Addr} {cap : Nat} {L : List Nat} (hL : LimbsAt w ao cap L) : L = [] ∨ ∃ b off, ao = some ⟨b, off, none⟩ ∧ b < w.heap.size ∧ some b ≠ v.ownBlock ∧ ∀ i, i < L.length → w.cell? ⟨b, off + i, none⟩ = some (.int .u32 ((L[i]?.getD 0 : Nat) : Int)) := by
  rcases hL.2.2 with e | ⟨b, off, h1, h2, h3⟩
  · exact .inl e
  · by_cases he : L = []
    · exact .inl he
    · refine .inr ⟨b, off, h1, h2, fun hb => ?_, h3⟩
      obtain ⟨cur, e, g1, g2⟩ := h b hb.symm
      have hp : 0 < L.length := List.length_pos_iff.2 he
      have h4 := h3 0 hp
      rw [cell_of_row w b (off + 0) _ _ _ g1] at h4
      have hm := Array.mem_of_getElem? h4
      have := g2 _ (Array.mem_toList_iff.2 hm)
      cases this

/-- Limbs stay where that row grows. -/
theorem LimbsAt.grownClear {w w' : World} {v : Value} {ao : Option Addr} {cap : Nat} {L : List Nat} (hL : LimbsAt w ao cap L) (h : Clear w v) (hg : w.grownBy w' v.ownBlock) : LimbsAt w' ao cap L := by
  refine ⟨hL.1, hL.2.1, ?_⟩
  rcases h.limbs hL with e | ⟨b, off, h1, h2, h3, h4⟩
  · exact .inl e
  · refine .inr ⟨b, off, h1, Nat.lt_of_lt_of_le h2 hg.size, fun i hi => ?_⟩
    rw [World.cell?_of_block (a := ⟨b, off + i, none⟩) (hg.block b h2 h3)]
    exact h4 i hi

theorem IsNum.grownClear {B : Nat} {w w' : World} {v u : Value} {z : Int} (hu : IsNum B w u z) (h : Clear w v) (hg : w.grownBy w' v.ownBlock) : IsNum B w' u z := by
  obtain ⟨neg, ao, cap, L, h1, h2, h3⟩ := hu
  exact ⟨neg, ao, cap, L, h1, h2.grownClear h hg, h3⟩

theorem IsLv.grownClear {w w' : World} {v u : Value} {lo z : Int} (hu : IsLv w u lo z) (h : Clear w v) (hg : w.grownBy w' v.ownBlock) : IsLv w' u lo z := by
  obtain ⟨neg, ao, cap, L, h1, h2⟩ := hu
  exact ⟨neg, ao, cap, L, h1, h2.grownClear h hg⟩

theorem noLimb_zeroCells (z : Array Value) (n : Nat) (h : ∀ u ∈ z.toList, noLimb u = true) : ∀ u ∈ (Builtin.zeroCells z n).toList, noLimb u = true := by
  intro u hu
  unfold Builtin.zeroCells at hu
  rw [Array.mem_toList_iff, Array.mem_map] at hu
  obtain ⟨i, hi, rfl⟩ := hu
  have hi' : i < n * z.size := by simpa using hi
  have hz : 0 < z.size := by
    rcases Nat.eq_zero_or_pos z.size with e | e
    · rw [e] at hi'; simp at hi'
    · exact e
  have hlt : i % z.size < z.size := Nat.mod_lt _ hz
  rw [getElem!_pos z (i % z.size) hlt]
  exact h _ (Array.mem_toList_iff.2 (Array.getElem_mem hlt))

/-- An append onto such a row: it stays one. -/
theorem run_append_clear {P : Program} (w : World) (base : Nat) (t ty e : TypeId) (i : TypeInfo) (z : Value) (size bytes : Nat) (ht : P.underlying t = some (.slice e)) (hi : P.info? e = some i) (hz : i.zero = some z)
    (hsize : i.size = size) (hby : i.bytes = bytes) (hzs : z.cells.size = size) (hsz : 0 < size)
    (v : Value) (n : Nat) (xs : List Value) (hown : w.ownsRow base e size v n xs)
    (a : Addr) (m c : Nat) (news : List Value) (hl : news.length = m * size) (hnews : ∀ j u, news[j]? = some u → w.cell? (a.add j) = some u) (h1 : ∀ u ∈ news, u.oneCell' = true)
    (h63 : n + m ≤ maxLen) (hbytes : (n + m) * bytes ≤ 140737488355328) (hbase : base ≤ w.heap.size) (hm : 0 < m)
    (hcl : Clear w v) (hzc : ∀ u ∈ z.cells.toList, noLimb u = true) (hnc : ∀ u ∈ news, noLimb u = true) :
    ∃ v' w', (Builtin.append_ #[t, t] ty #[v, .slice (some a) m c]).run P w = .ok v' w' ∧ w'.ownsRow base e size v' (n + m) (xs ++ news) ∧ w.grownBy w' v.ownBlock ∧
      (v'.ownBlock = v.ownBlock ∨ v'.ownBlock = some w.heap.size) ∧ Clear w' v' := by
  obtain ⟨v', w', e1, e2, e3, _, e5⟩ := run_append_own_at (P := P) w base t ty e i z size bytes ht hi hz hsize hby hzs hsz v n xs hown a m c news hl hnews h1 h63 hbytes hbase
  refine ⟨v', w', e1, e2, e3, e5, ?_⟩
  subst hsize
  subst hby
  have hsmall : n + m ≤ 9223372036854775807 := by simp only [maxLen] at h63; omega
  have hzz := fun k => noLimb_zeroCells z.cells k hzc
  have hx : ∀ u ∈ xs, noLimb u = true := by
    rcases hown.2 with ⟨rfl, rfl⟩ | ⟨g, cap, cur, rfl, _, hg, _, _, _, htake⟩
    · intro u hu
      have : xs = [] := List.eq_nil_of_length_eq_zero (by simpa using hown.1)
      rw [this] at hu
      cases hu
    · intro u hu
      obtain ⟨cur', e', g1, g2⟩ := hcl g rfl
      rw [hg] at g1
      cases g1
      rw [← htake] at hu
      exact g2 u (List.mem_of_mem_take hu)
  rcases hown.2 with ⟨rfl, rfl⟩ | ⟨g, cap, cur, rfl, hbg, hg, hnc', hcm, hcs, htake⟩
  · have hr := run_append_nil (P := P) w t ty e i z ht hi hz a m c news hl hnews hm (by omega) (by have hb := hbytes; simp only [Nat.zero_add] at hb; omega)
    rw [e1] at hr
    cases hr
    intro g hg
    cases hg
    refine ⟨_, e, heap_alloc_new w.drew _, fun u hu => ?_⟩
    simp only [Array.toList_append, List.mem_append] at hu
    rcases hu with hu | hu
    · exact hnc u (by simpa using hu)
    · exact hzz _ u hu
  · by_cases hroom : n + m ≤ cap
    · have hfit : n * i.size + news.length ≤ cur.size := by rw [hl, hcs, ← Nat.add_mul]; exact Nat.mul_le_mul_right _ hroom
      have hr := run_append_room (P := P) w t ty e i ht hi g n cap cur hg a m c news hl hnews h1 hroom hfit
      rw [e1] at hr
      cases hr
      intro k hk
      cases hk
      refine ⟨_, e, setRow_heap w g cur _ e _ hg, fun u hu => ?_⟩
      obtain ⟨cur', e', g1, g2⟩ := hcl g rfl
      rw [hg] at g1
      cases g1
      simp only [List.mem_append] at hu
      rcases hu with (hu | hu) | hu
      · exact g2 u (List.mem_of_mem_take hu)
      · exact hnc u hu
      · exact g2 u (List.mem_of_mem_drop hu)
    · have holds : ∀ j u, xs[j]? = some u → w.cell? ((⟨g, 0, none⟩ : Addr).add j) = some u := hown.cells (g := g) rfl
      have hr := run_append_grow (P := P) w t ty e i z ht hi hz ⟨g, 0, none⟩ n cap xs hown.1 holds a m c news hl hnews (by omega) (by omega) (growslice_fits (by omega) hbytes)
      rw [e1] at hr
      cases hr
      intro k hk
      cases hk
      refine ⟨_, e, heap_alloc_new w.drew _, fun u hu => ?_⟩
      simp only [Array.toList_append, List.mem_append] at hu
      rcases hu with (hu | hu) | hu
      · exact hx u (by simpa using hu)
      · exact hnc u (by simpa using hu)
      · exact hzz _ u hu

end Go.Proofs.YtfnnbkclnflpfaaGreatDoor

/- Determinants by the first row, over whole numbers: rows are functions of the column, columns a list. No program. -/
namespace Go.Proofs.YtfnnbkclnflpfaaGreatDoor

/-- The sum over the places of cs, the sign turning: r there, times D of the rest. -/
def exD (r : Nat → Int) : List Nat → (List Nat → Int) → Int
  | [], _ => 0
  | c :: cs, D => r c * D cs - exD r cs (fun l => D (c :: l))

def detD : List (Nat → Int) → List Nat → Int
  | [], _ => 1
  | r :: rs, cs => exD r cs (detD rs)

theorem exD_congr (r : Nat → Int) : ∀ (cs : List Nat) (D E : List Nat → Int), (∀ l, l.Sublist cs → l.length + 1 = cs.length → D l = E l) → exD r cs D = exD r cs E
  | [], _, _, _ => rfl
  | c :: cs, D, E, h => by
    unfold exD
    rw [h cs (List.sublist_cons_self c cs) rfl, exD_congr r cs (fun l => D (c :: l)) (fun l => E (c :: l)) (fun l h1 h2 => h (c :: l) (h1.cons_cons c) (by simp; omega))]

theorem exD_row (r s : Nat → Int) : ∀ (cs : List Nat) (D : List Nat → Int), (∀ c ∈ cs, r c = s c) → exD r cs D = exD s cs D
  | [], _, _ => rfl
  | c :: cs, D, h => by
    unfold exD
    rw [h c (by simp), exD_row r s cs _ (fun c hc => h c (by simp [hc]))]

theorem exD_lin (r : Nat → Int) (p q : Int) : ∀ (cs : List Nat) (D E : List Nat → Int), exD r cs (fun l => p * D l + q * E l) = p * exD r cs D + q * exD r cs E
  | [], _, _ => by simp [exD]
  | c :: cs, D, E => by
    unfold exD
    rw [exD_lin r p q cs (fun l => D (c :: l)) (fun l => E (c :: l))]
    grind

theorem exD_smul (r : Nat → Int) (p : Int) (cs : List Nat) (D : List Nat → Int) : exD r cs (fun l => p * D l) = p * exD r cs D := by
  have := exD_lin r p 0 cs D D
  simpa using this

theorem exD_linrow (r s : Nat → Int) (p q : Int) : ∀ (cs : List Nat) (D : List Nat → Int), exD (fun c => p * r c + q * s c) cs D = p * exD r cs D + q * exD s cs D
  | [], _ => by simp [exD]
  | c :: cs, D => by
    unfold exD
    rw [exD_linrow r s p q cs (fun l => D (c :: l))]
    grind

theorem exD_zero (r : Nat → Int) (cs : List Nat) : exD r cs (fun _ => 0) = 0 := by
  have := exD_smul r 0 cs (fun _ => 0)
  simpa using this

/-- Two sums change places. -/
theorem exD_fubini (r s : Nat → Int) : ∀ (cs ks : List Nat) (F : List Nat → List Nat → Int), exD r cs (fun l => exD s ks (fun m => F l m)) = exD s ks (fun m => exD r cs (fun l => F l m))
  | [], ks, F => (exD_zero s ks).symm
  | c :: cs, ks, F => by
    have h := exD_lin s (r c) (-1) ks (fun m => F cs m) (fun m => exD r cs (fun l => F (c :: l) m))
    have e : exD s ks (fun m => exD r (c :: cs) (fun l => F l m)) = exD s ks (fun m => r c * F cs m + -1 * exD r cs (fun l => F (c :: l) m)) := by
      congr 1
      funext m
      show r c * F cs m - exD r cs (fun l => F (c :: l) m) = _
      omega
    rw [e, h, ← exD_fubini r s cs ks (fun l m => F (c :: l) m)]
    show r c * exD s ks (fun m => F cs m) - exD r cs (fun l => exD s ks (fun m => F (c :: l) m)) = _
    omega

/-- Two rows that follow one another change places: the sign turns. -/
theorem exD_swap (r s : Nat → Int) : ∀ (cs : List Nat) (D : List Nat → Int), exD r cs (fun l => exD s l D) = - exD s cs (fun l => exD r l D)
  | [], _ => by simp [exD]
  | c :: cs, D => by
    have step : ∀ r s : Nat → Int, exD r (c :: cs) (fun l => exD s l D) = r c * exD s cs D - s c * exD r cs D + exD r cs (fun l => exD s l (fun m => D (c :: m))) := by
      intro r s
      have e : exD r cs (fun l => exD s (c :: l) D) = s c * exD r cs D + -1 * exD r cs (fun l => exD s l (fun m => D (c :: m))) := by
        rw [← exD_lin]
        congr 1
        funext l
        show s c * D l - exD s l (fun m => D (c :: m)) = _
        omega
      show r c * exD s cs D - exD r cs (fun l => exD s (c :: l) D) = _
      rw [e]
      omega
    rw [step r s, step s r, exD_swap r s cs (fun m => D (c :: m))]
    omega

theorem detD_cons (r : Nat → Int) (rs : List (Nat → Int)) (cs : List Nat) : detD (r :: rs) cs = exD r cs (detD rs) := rfl

theorem detD_swap (r s : Nat → Int) (rs : List (Nat → Int)) (cs : List Nat) : detD (r :: s :: rs) cs = - detD (s :: r :: rs) cs := by
  show exD r cs (fun l => exD s l (detD rs)) = - exD s cs (fun l => exD r l (detD rs))
  exact exD_swap r s cs (detD rs)

theorem detD_same (r : Nat → Int) (rs : List (Nat → Int)) (cs : List Nat) : detD (r :: r :: rs) cs = 0 := by
  have := detD_swap r r rs cs
  omega

/-- What holds behind a beginning holds with it: a factor. -/
theorem detD_pre (p : Int) (rs ss : List (Nat → Int)) (h : ∀ cs, detD rs cs = p * detD ss cs) : ∀ (pre : List (Nat → Int)) (cs : List Nat), detD (pre ++ rs) cs = p * detD (pre ++ ss) cs
  | [], cs => h cs
  | r :: pre, cs => by
    show exD r cs (detD (pre ++ rs)) = p * exD r cs (detD (pre ++ ss))
    rw [← exD_smul]
    congr 1
    funext l
    exact detD_pre p rs ss h pre l

/-- The other order of rows: the same but for the sign. -/
theorem detD_perm {rs ss : List (Nat → Int)} (h : rs.Perm ss) : ∃ p : Int, (p = 1 ∨ p = -1) ∧ ∀ cs, detD rs cs = p * detD ss cs := by
  induction h with
  | nil => exact ⟨1, .inl rfl, fun cs => by simp⟩
  | cons r _ ih =>
    obtain ⟨p, hp, h⟩ := ih
    exact ⟨p, hp, fun cs => detD_pre p _ _ h [r] cs⟩
  | swap r s l => exact ⟨-1, .inr rfl, fun cs => by rw [detD_swap s r l cs]; omega⟩
  | trans _ _ ih1 ih2 =>
    obtain ⟨p, hp, h⟩ := ih1
    obtain ⟨q, hq, g⟩ := ih2
    refine ⟨p * q, ?_, fun cs => by rw [h cs, g cs, Int.mul_assoc]⟩
    rcases hp with rfl | rfl <;> rcases hq with rfl | rfl <;> simp

/-- A row that stands twice: 0. -/
theorem detD_twice (r : Nat → Int) (rs : List (Nat → Int)) (pre mid : List (Nat → Int)) (cs : List Nat) : detD (pre ++ r :: (mid ++ r :: rs)) cs = 0 := by
  have hp : (pre ++ r :: (mid ++ r :: rs)).Perm (r :: r :: (pre ++ (mid ++ rs))) := by
    have h1 : (mid ++ r :: rs).Perm (r :: (mid ++ rs)) := List.perm_middle
    have h2 : (pre ++ r :: (mid ++ r :: rs)).Perm (r :: (pre ++ (mid ++ r :: rs))) := List.perm_middle
    refine h2.trans (List.Perm.cons r ?_)
    refine (List.Perm.append_left pre h1).trans ?_
    exact List.perm_middle
  obtain ⟨p, _, h⟩ := detD_perm hp
  rw [h cs, detD_same]
  simp

/-- A row that is a sum: at any place. -/
theorem detD_lin (r s : Nat → Int) (p q : Int) (rs : List (Nat → Int)) : ∀ (pre : List (Nat → Int)) (cs : List Nat), detD (pre ++ (fun c => p * r c + q * s c) :: rs) cs = p * detD (pre ++ r :: rs) cs + q * detD (pre ++ s :: rs) cs
  | [], cs => exD_linrow r s p q cs (detD rs)
  | t :: pre, cs => by
    show exD t cs (detD (pre ++ (fun c => p * r c + q * s c) :: rs)) = p * exD t cs (detD (pre ++ r :: rs)) + q * exD t cs (detD (pre ++ s :: rs))
    rw [← exD_lin]
    congr 1
    funext l
    exact detD_lin r s p q rs pre l

/-- The last row brought to the front. -/
theorem detD_last (r : Nat → Int) : ∀ (rs : List (Nat → Int)) (cs : List Nat), detD (rs ++ [r]) cs = (-1) ^ rs.length * detD (r :: rs) cs
  | [], cs => by simp
  | s :: rs, cs => by
    have h : detD (s :: (rs ++ [r])) cs = (-1) ^ rs.length * detD (s :: r :: rs) cs := detD_pre _ (rs ++ [r]) (r :: rs) (fun cs => detD_last r rs cs) [s] cs
    show detD (s :: (rs ++ [r])) cs = _
    rw [h, detD_swap s r rs cs, List.length_cons, Int.pow_succ]
    grind

/-- Rows turned into columns: the same. -/
theorem detD_turn (a : Nat → Nat → Int) : ∀ (n : Nat) (R C : List Nat), R.length = n → C.length = n → detD (R.map (fun i => fun j => a i j)) C = detD (C.map (fun j => fun i => a i j)) R
  | 0, R, C, hR, hC => by
    obtain rfl := List.length_eq_zero_iff.1 hR
    obtain rfl := List.length_eq_zero_iff.1 hC
    rfl
  | 1, [i], [j], _, _ => by simp [detD, exD]
  | n + 2, i :: R, j :: C, hR, hC => by
    have ihs : ∀ R C : List Nat, R.length = n + 1 → C.length = n + 1 → detD (R.map (fun i => fun j => a i j)) C = detD (C.map (fun j => fun i => a i j)) R := detD_turn a (n + 1)
    have ih0 : ∀ R C : List Nat, R.length = n → C.length = n → detD (R.map (fun i => fun j => a i j)) C = detD (C.map (fun j => fun i => a i j)) R := detD_turn a n
    simp only [List.length_cons] at hR hC
    show exD (a i) (j :: C) (detD (R.map (fun i => fun j => a i j))) = exD (fun i => a i j) (i :: R) (detD (C.map (fun j => fun i => a i j)))
    unfold exD
    have hA : exD (a i) C (fun l => detD (R.map (fun i => fun j => a i j)) (j :: l)) = exD (a i) C (fun l => exD (fun i => a i j) R (fun k => detD (k.map (fun i => fun j => a i j)) l)) := by
      refine exD_congr _ _ _ _ (fun l hl hlen => ?_)
      rw [ihs R (j :: l) (by omega) (by simp; omega)]
      show exD (fun i => a i j) R (detD (l.map (fun j => fun i => a i j))) = _
      refine exD_congr _ _ _ _ (fun k hk hkl => ?_)
      exact (ih0 k l (by omega) (by omega)).symm
    have hB : exD (fun i => a i j) R (fun l => detD (C.map (fun j => fun i => a i j)) (i :: l)) = exD (fun i => a i j) R (fun k => exD (a i) C (fun l => detD (k.map (fun i => fun j => a i j)) l)) := by
      refine exD_congr _ _ _ _ (fun k hk hkl => ?_)
      rw [← ihs (i :: k) C (by simp; omega) (by omega)]
      rfl
    rw [hA, hB, exD_fubini, ihs R C (by omega) (by omega)]

end Go.Proofs.YtfnnbkclnflpfaaGreatDoor

/- Minors and the rank, over whole numbers. No program. -/
namespace Go.Proofs.YtfnnbkclnflpfaaGreatDoor

/-- Places that rise, all below m. -/
def Rise (m : Nat) (I : List Nat) : Prop := I.Pairwise (· < ·) ∧ ∀ i ∈ I, i < m

/-- The minor of the rows I and the columns C. -/
def minorD (a : Nat → Nat → Int) (I C : List Nat) : Int := detD (I.map a) C

/-- All minors of k rows and columns are 0. -/
def Van (k : Nat) (a : Nat → Nat → Int) (m n : Nat) : Prop := ∀ I C, Rise m I → Rise n C → I.length = k → C.length = k → minorD a I C = 0

/-- r is the rank. -/
def IsRank (r : Nat) (a : Nat → Nat → Int) (m n : Nat) : Prop := ¬ Van r a m n ∧ Van (r + 1) a m n

theorem Rise.sub {m : Nat} {I J : List Nat} (h : Rise m I) (hs : J.Sublist I) : Rise m J := ⟨h.1.sublist hs, fun i hi => h.2 i (hs.subset hi)⟩

theorem Van.succ {k : Nat} {a : Nat → Nat → Int} {m n : Nat} (h : Van k a m n) : Van (k + 1) a m n := by
  intro I C hI hC lI lC
  cases I with
  | nil => simp at lI
  | cons i I =>
    show exD (a i) C (detD (I.map a)) = 0
    rw [exD_congr (a i) C (detD (I.map a)) (fun _ => 0) (fun l hl hlen => ?_), exD_zero]
    simp only [List.length_cons] at lI
    exact h I l (hI.sub (List.sublist_cons_self i I)) (hC.sub hl) (by omega) (by omega)

theorem Van.le {k j : Nat} {a : Nat → Nat → Int} {m n : Nat} (h : Van k a m n) (hj : k ≤ j) : Van j a m n := by
  obtain ⟨d, rfl⟩ : ∃ d, j = k + d := ⟨j - k, by omega⟩
  clear hj
  induction d with
  | zero => exact h
  | succ d ih => exact ih.succ

theorem IsRank.unique {r s : Nat} {a : Nat → Nat → Int} {m n : Nat} (h : IsRank r a m n) (g : IsRank s a m n) : r = s := by
  rcases Nat.lt_trichotomy r s with hlt | e | hlt
  · exact absurd (h.2.le hlt) g.1
  · exact e
  · exact absurd (g.2.le hlt) h.1

theorem dup_split : ∀ (I : List Nat), ¬ I.Nodup → ∃ pre i mid post, I = pre ++ i :: (mid ++ i :: post)
  | [], h => absurd List.nodup_nil h
  | i :: I, h => by
    by_cases hi : i ∈ I
    · obtain ⟨s, t, rfl⟩ := List.append_of_mem hi
      exact ⟨[], i, s, t, rfl⟩
    · have : ¬ I.Nodup := fun hn => h (List.nodup_cons.2 ⟨hi, hn⟩)
      obtain ⟨pre, j, mid, post, e⟩ := dup_split I this
      exact ⟨i :: pre, j, mid, post, by rw [e]; rfl⟩

/-- All minors vanish, the rows in whatever order, also if some stand twice. -/
theorem Van.all {k : Nat} {a : Nat → Nat → Int} {m n : Nat} (h : Van k a m n) (I C : List Nat) (hI : ∀ i ∈ I, i < m) (hC : Rise n C) (lI : I.length = k) (lC : C.length = k) : minorD a I C = 0 := by
  by_cases hn : I.Nodup
  · have hp : (I.mergeSort (fun x y => decide (x ≤ y))).Perm I := List.mergeSort_perm I _
    have hs : (I.mergeSort (fun x y => decide (x ≤ y))).Pairwise (fun x y => decide (x ≤ y) = true) := List.pairwise_mergeSort (fun x y z h1 h2 => by simp at *; omega) (fun x y => by simp; omega) I
    have hn' : (I.mergeSort (fun x y => decide (x ≤ y))).Nodup := hp.nodup_iff.2 hn
    have hr : Rise m (I.mergeSort (fun x y => decide (x ≤ y))) := by
      refine ⟨?_, fun i hi => hI i (hp.mem_iff.1 hi)⟩
      have h2 := List.Pairwise.and hs hn'
      exact h2.imp (fun h => by simp at h; omega)
    obtain ⟨p, _, hd⟩ := detD_perm (hp.map a)
    have h0 := h _ C hr hC (by rw [hp.length_eq]; exact lI) lC
    unfold minorD at h0 ⊢
    have h1 := hd C
    rw [h0] at h1
    rcases (show p = 1 ∨ p = -1 by assumption) with rfl | rfl <;> omega
  · obtain ⟨pre, i, mid, post, rfl⟩ := dup_split I hn
    unfold minorD
    simp only [List.map_append, List.map_cons]
    exact detD_twice (a i) (post.map a) (pre.map a) (mid.map a) C

/-- A row that is 0 at the columns asked for. -/
theorem exD_nought (r : Nat → Int) (cs : List Nat) (D : List Nat → Int) (h : ∀ c ∈ cs, r c = 0) : exD r cs D = 0 := by
  rw [exD_row r (fun _ => 0) cs D h]
  induction cs generalizing D with
  | nil => rfl
  | cons c cs ih =>
    unfold exD
    rw [ih _ (fun c hc => h c (by simp [hc]))]
    simp

theorem detD_nought (r : Nat → Int) (rs : List (Nat → Int)) (cs : List Nat) (h : ∀ c ∈ cs, r c = 0) : ∀ pre : List (Nat → Int), detD (pre ++ r :: rs) cs = 0 := by
  intro pre
  have hp : (pre ++ r :: rs).Perm (r :: (pre ++ rs)) := List.perm_middle
  obtain ⟨p, _, hd⟩ := detD_perm hp
  rw [hd cs]
  show p * exD r cs (detD (pre ++ rs)) = 0
  rw [exD_nought r cs _ h]
  simp

end Go.Proofs.YtfnnbkclnflpfaaGreatDoor

/- Matrices as lists, row by row: made, written place by place, turned, put together; products; no program. Ahead of stage 10. -/
namespace Go.Proofs.YtfnnbkclnflpfaaGreatDoor
open Go.RowKit

/-- A matrix that a function makes, row by row. -/
def mkM (r c : Nat) (f : Nat → Nat → Nat) : List Nat := (List.range (r * c)).map (fun p => f (p / c) (p % c))

theorem place_lt {r c i k : Nat} (hi : i < r) (hk : k < c) : i * c + k < r * c := by
  have h1 : (i + 1) * c ≤ r * c := Nat.mul_le_mul_right c hi
  rw [Nat.add_mul, Nat.one_mul] at h1
  omega
theorem place_div {c i k : Nat} (hk : k < c) : (i * c + k) / c = i := by
  rw [Nat.add_comm, Nat.add_mul_div_right _ _ (by omega), Nat.div_eq_of_lt hk, Nat.zero_add]
theorem place_mod {c i k : Nat} (hk : k < c) : (i * c + k) % c = k := by
  rw [Nat.add_comm, Nat.add_mul_mod_self_right, Nat.mod_eq_of_lt hk]
theorem place_in {r c p : Nat} (h : p < r * c) : p / c < r ∧ p % c < c ∧ p / c * c + p % c = p := by
  have c0 : 0 < c := by
    rcases Nat.eq_zero_or_pos c with e | e
    · subst e; omega
    · exact e
  refine ⟨(Nat.div_lt_iff_lt_mul c0).2 h, Nat.mod_lt _ c0, ?_⟩
  have := Nat.div_add_mod p c
  rw [Nat.mul_comm] at this
  exact this
theorem place_inj {c i k x y : Nat} (hk : k < c) (hy : y < c) : i * c + k = x * c + y ↔ i = x ∧ k = y := by
  constructor
  · intro h
    have h1 := place_div (i := i) hk
    have h2 := place_mod (i := i) hk
    rw [h, place_div hy] at h1
    rw [h, place_mod hy] at h2
    exact ⟨h1.symm, h2.symm⟩
  · rintro ⟨rfl, rfl⟩; rfl

theorem mkM_len (r c : Nat) (f : Nat → Nat → Nat) : (mkM r c f).length = r * c := by simp [mkM]
theorem mkM_get (r c : Nat) (f : Nat → Nat → Nat) (p : Nat) (h : p < r * c) : (mkM r c f)[p]? = some (f (p / c) (p % c)) := by simp [mkM, h]
theorem mkM_at (r c : Nat) (f : Nat → Nat → Nat) {i k : Nat} (hi : i < r) (hk : k < c) : (mkM r c f)[i * c + k]? = some (f i k) := by
  rw [mkM_get _ _ _ _ (place_lt hi hk), place_div hk, place_mod hk]
theorem mkM_atD (r c : Nat) (f : Nat → Nat → Nat) {i k : Nat} (hi : i < r) (hk : k < c) : (mkM r c f).getD (i * c + k) 0 = f i k := by
  rw [List.getD_eq_getElem?_getD, mkM_at r c f hi hk]; rfl
theorem mkM_congr {r c : Nat} {f g : Nat → Nat → Nat} (h : ∀ i k, i < r → k < c → f i k = g i k) : mkM r c f = mkM r c g := by
  unfold mkM
  refine List.map_congr_left (fun p hp => ?_)
  obtain ⟨h1, h2, _⟩ := place_in (List.mem_range.1 hp)
  exact h _ _ h1 h2
theorem mkM_noughts (r c : Nat) : List.replicate (r * c) 0 = mkM r c (fun _ _ => 0) := by
  refine List.ext_getElem? (fun p => ?_)
  rcases Nat.lt_or_ge p (r * c) with g | g
  · rw [mkM_get _ _ _ _ g, List.getElem?_replicate, if_pos g]
  · rw [List.getElem?_eq_none (by simpa using g), List.getElem?_eq_none (by rw [mkM_len]; exact g)]
/-- Another number at a place. -/
theorem mkM_set (r c : Nat) (g : Nat → Nat → Nat) (v : Nat) {i k : Nat} (_ : i < r) (hk : k < c) : (mkM r c g).set (i * c + k) v = mkM r c (fun x y => if x = i ∧ y = k then v else g x y) := by
  refine List.ext_getElem? (fun p => ?_)
  rcases Nat.lt_or_ge p (r * c) with h | h
  · obtain ⟨h1, h2, h3⟩ := place_in h
    rw [mkM_get _ _ _ _ h, List.getElem?_set]
    have e : (i * c + k = p) ↔ (p / c = i ∧ p % c = k) := by
      rw [← h3, place_inj hk h2, h3]
      exact ⟨fun ⟨a, b⟩ => ⟨a.symm, b.symm⟩, fun ⟨a, b⟩ => ⟨a.symm, b.symm⟩⟩
    by_cases q : i * c + k = p
    · rw [if_pos q, if_pos (by rw [mkM_len]; omega), if_pos (e.1 q)]
    · rw [if_neg q, if_neg (fun z => q (e.2 z)), mkM_get _ _ _ _ h]
  · rw [List.getElem?_eq_none (by simpa [mkM_len] using h), List.getElem?_eq_none (by rw [mkM_len]; exact h)]

/-- Written column by column (as Turn writes): all columns before i, and of column i all before k. -/
def fiC (f : Nat → Nat → Nat) (i k : Nat) : Nat → Nat → Nat := fun x y => if y < i ∨ (y = i ∧ x < k) then f x y else 0
theorem fiC_0 (r c : Nat) (f : Nat → Nat → Nat) : mkM r c (fiC f 0 0) = List.replicate (r * c) 0 := by
  rw [mkM_noughts]
  exact mkM_congr (fun i k _ _ => by unfold fiC; exact if_neg (by omega))
theorem fiC_step (r c : Nat) (f : Nat → Nat → Nat) {i k : Nat} (hi : i < c) (hk : k < r) : (mkM r c (fiC f i k)).set (k * c + i) (f k i) = mkM r c (fiC f i (k + 1)) := by
  rw [mkM_set r c _ _ hk hi]
  refine mkM_congr (fun x y _ _ => ?_)
  unfold fiC
  by_cases h : x = k ∧ y = i
  · obtain ⟨rfl, rfl⟩ := h
    rw [if_pos ⟨rfl, rfl⟩, if_pos (by omega)]
  · rw [if_neg h]
    by_cases g : y < i ∨ (y = i ∧ x < k)
    · rw [if_pos g, if_pos (by omega)]
    · rw [if_neg g, if_neg (by omega)]
theorem fiC_col (r c : Nat) (f : Nat → Nat → Nat) (i : Nat) : mkM r c (fiC f i r) = mkM r c (fiC f (i + 1) 0) := by
  refine mkM_congr (fun x y hx _ => ?_)
  unfold fiC
  by_cases g : y < i + 1
  · rw [if_pos (by omega), if_pos (by omega)]
  · rw [if_neg (by omega), if_neg (by omega)]
theorem fiC_all (r c : Nat) (f : Nat → Nat → Nat) : mkM r c (fiC f c 0) = mkM r c f :=
  mkM_congr (fun x y _ hy => by unfold fiC; exact if_pos (.inl hy))

/-- The number of a place; a matrix turned; a part; one beside the other. -/
def elM (c : Nat) (S : List Nat) (i k : Nat) : Nat := S.getD (i * c + k) 0
def tuM (r c : Nat) (S : List Nat) : List Nat := mkM c r (fun k i => elM c S i k)
theorem el_mk (r c : Nat) (f : Nat → Nat → Nat) {i k : Nat} (hi : i < r) (hk : k < c) : elM c (mkM r c f) i k = f i k := mkM_atD r c f hi hk

/-- Ones where rows and columns meet; times a matrix it is that matrix. -/
def eyM (n : Nat) : List Nat := mkM n n (fun i k => if k = i then 4607182418800017408 else 0)
end Go.Proofs.YtfnnbkclnflpfaaGreatDoor

/- Sums of whole numbers: put in order by rows or by columns, none of them below 0, bounded; what stage 11 tells, in units of powers of two; rows scaled keep the rank; no program. Ahead of stage 11. -/
namespace Go.Proofs.YtfnnbkclnflpfaaGreatDoor
open Go.RowKit

/-- The sum of the first n numbers. -/
def smI (f : Nat → Int) : Nat → Int
  | 0 => 0
  | n + 1 => smI f n + f n

theorem smI_congr {f g : Nat → Int} (n : Nat) (h : ∀ i, i < n → f i = g i) : smI f n = smI g n := by
  induction n with
  | zero => rfl
  | succ n ih => unfold smI; rw [ih (fun i hi => h i (by omega)), h n (by omega)]

theorem smI_add (f g : Nat → Int) (n : Nat) : smI (fun i => f i + g i) n = smI f n + smI g n := by
  induction n with
  | zero => rfl
  | succ n ih => unfold smI; rw [ih]; omega

theorem smI_noughts (n : Nat) : smI (fun _ => 0) n = 0 := by
  induction n with
  | zero => rfl
  | succ n ih => unfold smI; rw [ih]; rfl

/-- By rows or by columns. -/
theorem smI_swap (f : Nat → Nat → Int) (r c : Nat) : smI (fun i => smI (f i) c) r = smI (fun k => smI (fun i => f i k) r) c := by
  induction r with
  | zero =>
    rw [smI_congr (f := fun k => smI (fun i => f i k) 0) (g := fun _ => 0) c (fun _ _ => rfl), smI_noughts]
    rfl
  | succ r ih =>
    have e : smI (fun i => smI (f i) c) (r + 1) = smI (fun i => smI (f i) c) r + smI (f r) c := rfl
    rw [e, ih, ← smI_add]
    rfl

theorem smI_app (f : Nat → Int) (m n : Nat) : smI f (m + n) = smI f m + smI (fun i => f (m + i)) n := by
  induction n with
  | zero => show smI f m = smI f m + 0; omega
  | succ n ih =>
    have e1 : smI f (m + (n + 1)) = smI f (m + n) + f (m + n) := rfl
    have e2 : smI (fun i => f (m + i)) (n + 1) = smI (fun i => f (m + i)) n + f (m + n) := rfl
    rw [e1, e2, ih]; omega

/-- A list's sum, row by row. -/
theorem smI_grid (f : Nat → Int) (r c : Nat) : smI f (r * c) = smI (fun i => smI (fun k => f (i * c + k)) c) r := by
  induction r with
  | zero => rw [Nat.zero_mul]; rfl
  | succ r ih =>
    have e : smI (fun i => smI (fun k => f (i * c + k)) c) (r + 1) = smI (fun i => smI (fun k => f (i * c + k)) c) r + smI (fun k => f (r * c + k)) c := rfl
    rw [e, ← ih, Nat.succ_mul, smI_app]

theorem smI_nonneg {f : Nat → Int} (n : Nat) (h : ∀ i, i < n → 0 ≤ f i) : 0 ≤ smI f n := by
  induction n with
  | zero => exact Int.le_refl 0
  | succ n ih => have a := ih (fun i hi => h i (by omega)); have b := h n (by omega); unfold smI; omega

theorem smI_nought {f : Nat → Int} (n : Nat) (h : ∀ i, i < n → 0 ≤ f i) : smI f n = 0 ↔ ∀ i, i < n → f i = 0 := by
  induction n with
  | zero => exact ⟨fun _ i hi => absurd hi (Nat.not_lt_zero i), fun _ => rfl⟩
  | succ n ih =>
    have k := ih (fun i hi => h i (by omega))
    have a := smI_nonneg n (fun i hi => h i (by omega))
    have b := h n (by omega)
    have e : smI f (n + 1) = smI f n + f n := rfl
    rw [e]
    constructor
    · intro g i hi
      by_cases hn : i = n
      · subst hn; omega
      · exact k.1 (by omega) i (by omega)
    · intro g
      have := k.2 (fun i hi => g i (by omega))
      have := g n (by omega)
      omega

/-- One of them is picked. -/
theorem smI_pick (f : Nat → Int) (p : Int) (k n : Nat) : smI (fun j => f j * (if j = k then p else 0)) n = if k < n then f k * p else 0 := by
  induction n with
  | zero => rfl
  | succ n ih =>
    have e : smI (fun j => f j * (if j = k then p else 0)) (n + 1) = smI (fun j => f j * (if j = k then p else 0)) n + f n * (if n = k then p else 0) := rfl
    rw [e, ih]
    by_cases h : k < n
    · rw [if_pos h, if_pos (show k < n + 1 by omega), if_neg (show ¬ n = k by omega), Int.mul_zero, Int.add_zero]
    · rw [if_neg h]
      by_cases h2 : n = k
      · subst h2; rw [if_pos rfl, if_pos (show n < n + 1 by omega), Int.zero_add]
      · rw [if_neg h2, if_neg (show ¬ k < n + 1 by omega), Int.mul_zero, Int.add_zero]

theorem smI_abs {f : Nat → Int} {B : Nat} (n : Nat) (h : ∀ i, i < n → (f i).natAbs ≤ B) : (smI f n).natAbs ≤ n * B := by
  induction n with
  | zero => rw [Nat.zero_mul]; exact Nat.le_refl 0
  | succ n ih =>
    have a := ih (fun i hi => h i (by omega))
    have b := h n (by omega)
    rw [Nat.succ_mul]
    unfold smI
    have := Int.natAbs_add_le (smI f n) (f n)
    omega

theorem Lvl.times {lo1 lo2 : Int} {W1 W2 : Nat} {z1 z2 : Int} (h1 : Lvl lo1 W1 z1) (h2 : Lvl lo2 W2 z2) (b1 : -16384 ≤ lo1 + lo2) (b2 : lo1 + lo2 + (W1 + W2 : Nat) ≤ 16384) (b3 : W1 + W2 ≤ 16384) : Lvl (lo1 + lo2) (W1 + W2) (z1 * z2) := by
  refine ⟨?_, b1, b2, b3⟩
  rw [Int.natAbs_mul]
  exact mul_lt_pow h1.1 h2.1

theorem Lvl.less {lo : Int} {W : Nat} {z1 z2 : Int} (h1 : Lvl lo W z1) (h2 : Lvl lo W z2) (hW : lo + W + 1 ≤ 16384) (hW2 : W + 1 ≤ 16384) : Lvl lo (W + 1) (z1 - z2) := by
  refine ⟨?_, h1.2.1, by have := h1.2.2; omega, hW2⟩
  have a := h1.1
  have b := h2.1
  rw [Nat.pow_succ]
  omega

theorem sq_ge (x : Int) : 0 ≤ x * x := by
  rcases Int.le_total 0 x with h | h
  · exact Int.mul_nonneg h h
  · exact Int.mul_nonneg_of_nonpos_of_nonpos h h

theorem sq_zero {x : Int} : x * x = 0 ↔ x = 0 := by
  rw [Int.mul_eq_zero]
  exact ⟨fun h => h.elim id id, .inl⟩

/-- The square of a list, in units of 2^-2148. -/
def sqZ (S : List Nat) : Int := smI (fun p => fZ (S.getD p 0) * fZ (S.getD p 0)) S.length

theorem sqZ_nought (S : List Nat) : sqZ S = 0 ↔ ∀ p, p < S.length → fZ (S.getD p 0) = 0 := by
  unfold sqZ
  rw [smI_nought _ (fun i _ => sq_ge _)]
  exact ⟨fun h p hp => sq_zero.1 (h p hp), fun h p hp => sq_zero.2 (h p hp)⟩

theorem sqZ_nonneg (S : List Nat) : 0 ≤ sqZ S := smI_nonneg _ (fun _ _ => sq_ge _)

theorem sqZ_grid (r c : Nat) (S : List Nat) (h : S.length = r * c) : sqZ S = smI (fun i => smI (fun k => fZ (elM c S i k) * fZ (elM c S i k)) c) r := by
  unfold sqZ
  rw [h, smI_grid]
  rfl

/-- Rows as columns have the same square. -/
theorem sqZ_tu (r c : Nat) (S : List Nat) (h : S.length = r * c) : sqZ (tuM r c S) = sqZ S := by
  have hl : (tuM r c S).length = c * r := mkM_len _ _ _
  rw [sqZ_grid c r _ hl, sqZ_grid r c S h, smI_swap]
  refine smI_congr r (fun i hi => smI_congr c (fun k hk => ?_))
  unfold tuM
  rw [el_mk c r _ hk hi]

/-- The exact sum of products, in units of 2^-2148. -/
def dtZ (n : Nat) (x y : Nat → Nat) : Int := smI (fun j => fZ (x j) * fZ (y j)) n

/-- A place of a matrix less a product, in units of 2^-2148; the square of that, in units of 2^-4296. -/
def rsZ (n c : Nat) (A B C : List Nat) (i k : Nat) : Int := fZ (elM c A i k) * 2 ^ 1074 - dtZ n (fun j => elM n B i j) (fun j => elM c C j k)
def rsQ (r n c : Nat) (A B C : List Nat) : Int := smI (fun i => smI (fun k => rsZ n c A B C i k * rsZ n c A B C i k) c) r

theorem fZ_one11 : fZ 4607182418800017408 = 2 ^ 1074 := by decide +kernel
theorem fZ_zero11 : fZ 0 = 0 := by decide +kernel

/-- A matrix less itself times Eye is nought. -/
theorem rsZ_eye (r c : Nat) (S : List Nat) {i k : Nat} (_ : i < r) (hk : k < c) : rsZ c c S S (eyM c) i k = 0 := by
  unfold rsZ dtZ
  have e : smI (fun j => fZ (elM c S i j) * fZ (elM c (eyM c) j k)) c = smI (fun j => fZ (elM c S i j) * (if j = k then 2 ^ 1074 else 0)) c := by
    refine smI_congr c (fun j hj => ?_)
    unfold eyM
    rw [el_mk c c _ hj hk]
    by_cases h : k = j
    · rw [if_pos h, if_pos h.symm, fZ_one11]
    · rw [if_neg h, if_neg (fun g => h g.symm), fZ_zero11]
  rw [e, smI_pick (fun j => fZ (elM c S i j)) (2 ^ 1074) k c, if_pos hk]
  omega

theorem rsQ_eye (r c : Nat) (S : List Nat) : rsQ r c c S S (eyM c) = 0 := by
  unfold rsQ
  rw [smI_congr (g := fun _ => 0) r (fun i hi => by
    rw [smI_congr (g := fun _ => 0) c (fun k hk => by rw [rsZ_eye r c S hi hk]; rfl), smI_noughts]), smI_noughts]

end Go.Proofs.YtfnnbkclnflpfaaGreatDoor

