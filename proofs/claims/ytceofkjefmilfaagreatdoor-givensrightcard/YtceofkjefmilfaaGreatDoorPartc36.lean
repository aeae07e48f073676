/- Part 36 of the texts. -/
import Derived.Test.YtceofkjefmilfaaGreatDoorPartc33
import Derived.Test.YtceofkjefmilfaaGreatDoorPartc35
import Derived.Test.YtceofkjefmilfaaGreatDoorPartc11
import Derived.WalkSmall
import Derived.Test.YtceofkjefmilfaaGreatDoorPartc34
import Derived.OwnWalk
import Derived.Test.YtceofkjefmilfaaGreatDoorPartc31
import Derived.Test.YtceofkjefmilfaaGreatDoorPartc32
import Derived.Test.YtceofkjefmilfaaGreatDoorPartc18
import Derived.Test.YtceofkjefmilfaaGreatDoorPartc19
import Derived.Deep.Cut
import Derived.BigQuiet
import Derived.Deep.RegionLaw
import Derived.Test.YtceofkjefmilfaaGreatDoorPartc16
import Derived.Test.YtceofkjefmilfaaGreatDoorPartc27
/- Contract of the law's small. -/
namespace Go.Proofs.YtceofkjefmilfaaGreatDoor
open Go.RowKit
attribute [local go_sem ↓] Go.wp_at_zero Go.wp_at_succ
/-- A list of whole numbers in memory. -/
structure IR where
  ao : Option Addr
  cap : Nat
  I : List Int
def IR.nil : IR := ⟨none, 0, []⟩
def irAt (Ls : List IR) (i : Nat) : IR := Ls[i]?.getD IR.nil
def IMatAt (w : World) (ao : Option Addr) (cap : Nat) (Ls : List IR) : Prop :=
  Ls.length ≤ cap ∧ (∀ r ∈ Ls, IntsAt w r.ao r.cap r.I ∧ r.I.length ≤ 1000000) ∧ (Ls = [] ∨ ∃ b off, ao = some ⟨b, off, none⟩ ∧ b < w.heap.size ∧ ∀ i, i < Ls.length → w.cell? ⟨b, off + i, none⟩ = some (.slice (irAt Ls i).ao (irAt Ls i).I.length (irAt Ls i).cap))
theorem IMatAt.below {w w' : World} {ao : Option Addr} {cap : Nat} {Ls : List IR} (h : IMatAt w ao cap Ls) (hb : Below w.heap.size w w') : IMatAt w' ao cap Ls := by
  refine ⟨h.1, fun r hr => ⟨(h.2.1 r hr).1.below hb, (h.2.1 r hr).2⟩, ?_⟩
  rcases h.2.2 with e | ⟨b, off, h1, h2, h3⟩
  · exact .inl e
  · refine .inr ⟨b, off, h1, Nat.lt_of_lt_of_le h2 hb.size, fun i hi => ?_⟩
    rw [hb.cell (p := ⟨b, off + i, none⟩) h2]
    exact h3 i hi
theorem IMatAt.ne {w : World} {ao : Option Addr} {cap : Nat} {Ls : List IR} (h : IMatAt w ao cap Ls) (h0 : 0 < Ls.length) : ∃ b off, ao = some ⟨b, off, none⟩ ∧ b < w.heap.size ∧ ∀ i, i < Ls.length → w.cell? ⟨b, off + i, none⟩ = some (.slice (irAt Ls i).ao (irAt Ls i).I.length (irAt Ls i).cap) := by
  rcases h.2.2 with e | e
  · rw [e] at h0; simp at h0
  · exact e

end Go.Proofs.YtceofkjefmilfaaGreatDoor

/- Determinants by the first row, as the reference reckons them. -/
namespace Go.Proofs.YtceofkjefmilfaaGreatDoor
open Go.RowKit
/-- Places that are some of the first n. -/
def InI (n : Nat) (I : List Int) : Prop := ∀ x ∈ I, 0 ≤ x ∧ x < n
theorem InI.at {n : Nat} {I : List Int} (h : InI n I) {j : Nat} (hj : j < I.length) : ∃ q : Nat, atI I j = (q : Int) ∧ q < n ∧ (natI I)[j]?.getD 0 = q := by
  have h1 := h _ (List.getElem_mem hj)
  refine ⟨(I[j]).toNat, ?_, by omega, ?_⟩
  · unfold atI; rw [List.getElem?_eq_getElem hj]; simp; omega
  · unfold natI; rw [List.getElem?_map, List.getElem?_eq_getElem hj]; rfl
end Go.Proofs.YtceofkjefmilfaaGreatDoor

/- Contract of the reference's Det. -/
namespace Go.Proofs.YtceofkjefmilfaaGreatDoor
open Go.RowKit
attribute [local go_sem ↓] Go.wp_at_zero Go.wp_at_succ
theorem Box2.oth {w : World} {b g : Nat} {x y x' y' : Value} (_ : Box2 w g x' y') (h : Box2 w b x y) (hlt : b < g) (u u' : Value) : Box2 ((w.setCell ⟨g, 0, none⟩ u).setCell ⟨g, 1, none⟩ u') b x y := h.otherx (Nat.ne_of_lt hlt) u u'
end Go.Proofs.YtceofkjefmilfaaGreatDoor

/- Package certify: Square, Residual by letters. -/
namespace Go.Proofs.YtceofkjefmilfaaGreatDoor
open Go.RowKit
attribute [local go_sem ↓] Go.wp_at_zero Go.wp_at_succ
/-- Three matrices' boxes and the answer's. -/
def Bx3D (w W : World) (r c p q s d : Int) (ao bo co : Option Addr) (na nb nc ca cb cc : Nat) : Prop :=
  BoxM W w.heap.size (.int .i64 r) (.int .i64 c) (.slice ao na ca) ∧ BoxM W (w.heap.size + 1) (.int .i64 p) (.int .i64 q) (.slice bo nb cb) ∧ BoxM W (w.heap.size + 1 + 1) (.int .i64 s) (.int .i64 d) (.slice co nc cc) ∧ Box3 W (w.heap.size + 1 + 1 + 1) (.bool false) (.slice none 0 0) (.int .i64 0) ∧ Below w.heap.size w W
theorem Bx3D.all {w W W' : World} {r c p q s d : Int} {ao bo co : Option Addr} {na nb nc ca cb cc : Nat} (h : Bx3D w W r c p q s d ao bo co na nb nc ca cb cc) (hb : Below W.heap.size W W') : Bx3D w W' r c p q s d ao bo co na nb nc ca cb cc :=
  ⟨h.1.all hb, h.2.1.all hb, h.2.2.1.all hb, h.2.2.2.1.all hb, h.2.2.2.2.trans (hb.mono h.2.2.2.2.size)⟩
theorem Bx3D.start (w : World) (r c p q s d : Int) (ao bo co : Option Addr) (na nb nc ca cb cc : Nat) : Bx3D w ((((w.alloc (.cells #[.int .i64 r, .int .i64 c, .slice ao na ca] 35)).alloc (.cells #[.int .i64 p, .int .i64 q, .slice bo nb cb] 35)).alloc (.cells #[.int .i64 s, .int .i64 d, .slice co nc cc] 35)).alloc (.cells #[.bool false, .slice none 0 0, .int .i64 0] 52)) r c p q s d ao bo co na nb nc ca cb cc := by
  have b0 := below_alloc9 w (.cells #[.int .i64 r, .int .i64 c, .slice ao na ca] 35)
  have s0 := size_alloc9 w (.cells #[.int .i64 r, .int .i64 c, .slice ao na ca] 35)
  have x0 := BoxM.new w (.int .i64 r) (.int .i64 c) (.slice ao na ca)
  generalize w.alloc (.cells #[.int .i64 r, .int .i64 c, .slice ao na ca] 35) = w0 at *
  have b1 := below_alloc9 w0 (.cells #[.int .i64 p, .int .i64 q, .slice bo nb cb] 35)
  have s1 := size_alloc9 w0 (.cells #[.int .i64 p, .int .i64 q, .slice bo nb cb] 35)
  have x1 := BoxM.new w0 (.int .i64 p) (.int .i64 q) (.slice bo nb cb)
  generalize w0.alloc (.cells #[.int .i64 p, .int .i64 q, .slice bo nb cb] 35) = w1 at *
  have b2 := below_alloc9 w1 (.cells #[.int .i64 s, .int .i64 d, .slice co nc cc] 35)
  have s2 := size_alloc9 w1 (.cells #[.int .i64 s, .int .i64 d, .slice co nc cc] 35)
  have x2 := BoxM.new w1 (.int .i64 s) (.int .i64 d) (.slice co nc cc)
  generalize w1.alloc (.cells #[.int .i64 s, .int .i64 d, .slice co nc cc] 35) = w2 at *
  have b3 := below_alloc9 w2 (.cells #[.bool false, .slice none 0 0, .int .i64 0] 52)
  have x3 := Box3.new w2 (.bool false) (.slice none 0 0) (.int .i64 0)
  rw [s2, s1, s0] at x3
  rw [s1, s0] at x2
  rw [s0] at x1
  have bb := (b0.trans (b1.mono b0.size)).trans (b2.mono (Nat.le_trans b0.size b1.size))
  exact ⟨((x0.all b1).all b2).all b3, (x1.all b2).all b3, x2.all b3, x3, bb.trans (b3.mono bb.size)⟩

end Go.Proofs.YtceofkjefmilfaaGreatDoor

/- Package certify: Orthogonal by letters. -/
namespace Go.Proofs.YtceofkjefmilfaaGreatDoor
open Go.RowKit
attribute [local go_sem ↓] Go.wp_at_zero Go.wp_at_succ

theorem BoxT.oth3 {T : Nat} {w : World} {b : Nat} {x y z : Value} (h : BoxT T w b x y z) {g : Nat} (hg : b ≠ g) (u u' u'' : Value) : BoxT T (((w.setCell ⟨g, 0, none⟩ u).setCell ⟨g, 1, none⟩ u').setCell ⟨g, 2, none⟩ u'') b x y z :=
  ((h.other (p := ⟨g, 0, none⟩) hg u).other (p := ⟨g, 1, none⟩) hg u').other (p := ⟨g, 2, none⟩) hg u''
theorem BoxM.oth3 {w : World} {b : Nat} {x y z : Value} (h : BoxM w b x y z) {g : Nat} (hg : b ≠ g) (u u' u'' : Value) : BoxM (((w.setCell ⟨g, 0, none⟩ u).setCell ⟨g, 1, none⟩ u').setCell ⟨g, 2, none⟩ u'') b x y z :=
  ((h.other (p := ⟨g, 0, none⟩) hg u).other (p := ⟨g, 1, none⟩) hg u').other (p := ⟨g, 2, none⟩) hg u''

end Go.Proofs.YtceofkjefmilfaaGreatDoor

