/- Part 37 of the texts. -/
import Derived.Test.YtceofkjefmilfaaGreatDoorPartd36
import Derived.Test.YtceofkjefmilfaaGreatDoorPartd33
import Derived.Test.YtceofkjefmilfaaGreatDoorPartd18
import Derived.Test.YtceofkjefmilfaaGreatDoorPartd19
import Derived.Deep.Cut
import Derived.BigQuiet
import Derived.Test.YtceofkjefmilfaaGreatDoorPartd35
import Derived.Test.YtceofkjefmilfaaGreatDoorPartd32
import Derived.Test.YtceofkjefmilfaaGreatDoorPartd30
import Derived.Deep.RegionLaw
import Derived.Test.YtceofkjefmilfaaGreatDoorPartd34
import Derived.Test.YtceofkjefmilfaaGreatDoorPartd08
import Derived.Test.YtceofkjefmilfaaGreatDoorPartd31
/- Contract of the reference's Det. -/
namespace Go.Proofs.YtceofkjefmilfaaGreatDoor
open Go.RowKit
attribute [local go_sem ↓] Go.wp_at_zero Go.wp_at_succ
theorem Box2.oth {w : World} {b g : Nat} {x y x' y' : Value} (_ : Box2 w g x' y') (h : Box2 w b x y) (hlt : b < g) (u u' : Value) : Box2 ((w.setCell ⟨g, 0, none⟩ u).setCell ⟨g, 1, none⟩ u') b x y := h.otherx (Nat.ne_of_lt hlt) u u'
end Go.Proofs.YtceofkjefmilfaaGreatDoor

/- Package certify: Square, Residual by letters. -/
namespace Go.Proofs.YtceofkjefmilfaaGreatDoor
open Go.RowKit
attribute [local go_sem ↓] Go.wp_at_zero Go.wp_at_succ

/-- One matrix's box and the answer's. -/
theorem boxes1D (w : World) (r c : Int) (ao : Option Addr) (n cap : Nat) : BoxM ((w.alloc (.cells #[.int .i64 r, .int .i64 c, .slice ao n cap] 35)).alloc (.cells #[.bool false, .slice none 0 0, .int .i64 0] 52)) w.heap.size (.int .i64 r) (.int .i64 c) (.slice ao n cap) ∧ Box3 ((w.alloc (.cells #[.int .i64 r, .int .i64 c, .slice ao n cap] 35)).alloc (.cells #[.bool false, .slice none 0 0, .int .i64 0] 52)) (w.heap.size + 1) (.bool false) (.slice none 0 0) (.int .i64 0) ∧ Below w.heap.size w ((w.alloc (.cells #[.int .i64 r, .int .i64 c, .slice ao n cap] 35)).alloc (.cells #[.bool false, .slice none 0 0, .int .i64 0] 52)) := by
  have b0 := below_alloc9 w (.cells #[.int .i64 r, .int .i64 c, .slice ao n cap] 35)
  have s0 := size_alloc9 w (.cells #[.int .i64 r, .int .i64 c, .slice ao n cap] 35)
  have x0 := BoxM.new w (.int .i64 r) (.int .i64 c) (.slice ao n cap)
  generalize w.alloc (.cells #[.int .i64 r, .int .i64 c, .slice ao n cap] 35) = w0 at *
  have b1 := below_alloc9 w0 (.cells #[.bool false, .slice none 0 0, .int .i64 0] 52)
  have x1 := Box3.new w0 (.bool false) (.slice none 0 0) (.int .i64 0)
  rw [s0] at x1
  exact ⟨x0.all b1, x1, b0.trans (b1.mono b0.size)⟩

/-- Three matrices' boxes and the answer's. -/
def Bx3D (w W : World) (r c p q s d : Int) (ao bo co : Option Addr) (na nb nc ca cb cc : Nat) : Prop :=
  BoxM W w.heap.size (.int .i64 r) (.int .i64 c) (.slice ao na ca) ∧ BoxM W (w.heap.size + 1) (.int .i64 p) (.int .i64 q) (.slice bo nb cb) ∧ BoxM W (w.heap.size + 1 + 1) (.int .i64 s) (.int .i64 d) (.slice co nc cc) ∧ Box3 W (w.heap.size + 1 + 1 + 1) (.bool false) (.slice none 0 0) (.int .i64 0) ∧ Below w.heap.size w W
theorem Bx3D.all {w W W' : World} {r c p q s d : Int} {ao bo co : Option Addr} {na nb nc ca cb cc : Nat} (h : Bx3D w W r c p q s d ao bo co na nb nc ca cb cc) (hb : Below W.heap.size W W') : Bx3D w W' r c p q s d ao bo co na nb nc ca cb cc :=
  ⟨h.1.all hb, h.2.1.all hb, h.2.2.1.all hb, h.2.2.2.1.all hb, h.2.2.2.2.trans (hb.mono h.2.2.2.2.size)⟩
theorem Bx3D.start (w : World) (r c p q s d : Int) (ao bo co : Option Addr) (na nb nc ca cb cc : Nat) : Bx3D w ((((w.alloc (.cells #[.int .i64 r, .int .i64 c, .slice ao na ca] 35)).alloc (.cells #[.int .i64 p, .int .i64 q, .slice bo nb cb] 35)).alloc (.cells #[.int .i64 s, .int .i64 d, .slice co nc cc] 35)).alloc (.cells #[.bool false, .slice none 0 0, .int .i64 0] 52)) r c p q s d ao bo co na nb nc ca cb cc := by
  have b0 := below_alloc9 w (.cells #[.int .i64 r, .int .i64 c, .slice ao na ca] 35)
  have s0 := size_alloc9 w (.cells #[.int .i64 r, .int .i64 c, .slice ao na ca] 35)
  have x0 := BoxM.new w (.int .i64 r) (.int .i64 c) (.slice ao na ca)
  generalize w.alloc (.cells #[.int .i64 r, .int .i64 c, .slice ao na ca] 35) = w0 at *
  have b1 := below_alloc9 w0 (.cells #[.int .i64 p, .int .i64 q, .slice bo nb cb] 35)
  have s1 := size_alloc9 w0 (.cells #[.int .i64 p, .int .i64 q, .slice bo nb cb] 35)
  have x1 := BoxM.new w0 (.int .i64 p) (.int .i64 q) (.slice bo nb cb)
  generalize w0.alloc (.cells #[.int .i64 p, .int .i64 q, .slice bo nb cb] 35) = w1 at *
  have b2 := below_alloc9 w1 (.cells #[.int .i64 s, .int .i64 d, .slice co nc cc] 35)
  have s2 := size_alloc9 w1 (.cells #[.int .i64 s, .int .i64 d, .slice co nc cc] 35)
  have x2 := BoxM.new w1 (.int .i64 s) (.int .i64 d) (.slice co nc cc)
  generalize w1.alloc (.cells #[.int .i64 s, .int .i64 d, .slice co nc cc] 35) = w2 at *
  have b3 := below_alloc9 w2 (.cells #[.bool false, .slice none 0 0, .int .i64 0] 52)
  have x3 := Box3.new w2 (.bool false) (.slice none 0 0) (.int .i64 0)
  rw [s2, s1, s0] at x3
  rw [s1, s0] at x2
  rw [s0] at x1
  have bb := (b0.trans (b1.mono b0.size)).trans (b2.mono (Nat.le_trans b0.size b1.size))
  exact ⟨((x0.all b1).all b2).all b3, (x1.all b2).all b3, x2.all b3, x3, bb.trans (b3.mono bb.size)⟩

end Go.Proofs.YtceofkjefmilfaaGreatDoor

/- Package certify: Orthogonal by letters. -/
namespace Go.Proofs.YtceofkjefmilfaaGreatDoor
open Go.RowKit
attribute [local go_sem ↓] Go.wp_at_zero Go.wp_at_succ

theorem BoxT.oth3 {T : Nat} {w : World} {b : Nat} {x y z : Value} (h : BoxT T w b x y z) {g : Nat} (hg : b ≠ g) (u u' u'' : Value) : BoxT T (((w.setCell ⟨g, 0, none⟩ u).setCell ⟨g, 1, none⟩ u').setCell ⟨g, 2, none⟩ u'') b x y z :=
  ((h.other (p := ⟨g, 0, none⟩) hg u).other (p := ⟨g, 1, none⟩) hg u').other (p := ⟨g, 2, none⟩) hg u''
theorem BoxM.oth3 {w : World} {b : Nat} {x y z : Value} (h : BoxM w b x y z) {g : Nat} (hg : b ≠ g) (u u' u'' : Value) : BoxM (((w.setCell ⟨g, 0, none⟩ u).setCell ⟨g, 1, none⟩ u').setCell ⟨g, 2, none⟩ u'') b x y z :=
  ((h.other (p := ⟨g, 0, none⟩) hg u).other (p := ⟨g, 1, none⟩) hg u').other (p := ⟨g, 2, none⟩) hg u''

end Go.Proofs.YtceofkjefmilfaaGreatDoor

/- What is reckoned place by place, and what is known of lists. -/
namespace Go.Proofs.YtceofkjefmilfaaGreatDoor
open Go.RowKit
theorem tame_fn (I : List Int) (K : Int) (h : tmK K I I.length = true) : fnK I I.length = true := by
  have : ∀ n, tmK K I n = true → fnK I n = true := by
    intro n
    induction n with
    | zero => intro _; rfl
    | succ n ih =>
      intro h
      have h' : (tmK K I n && tmB K (atB I n)) = true := h
      rw [Bool.and_eq_true] at h'
      show (fnK I n && fFin (atB I n)) = true
      have h2 := h'.2
      unfold tmB at h2
      rw [Bool.and_eq_true] at h2
      rw [ih h'.1, h2.1]
      rfl
  exact this _ h

end Go.Proofs.YtceofkjefmilfaaGreatDoor

/- The mathematics of a row times a power of two, and of a turned matrix (ahead of CertifyRanks, CertifyScales). -/
namespace Go.Proofs.YtceofkjefmilfaaGreatDoor
theorem p2_int (n : Nat) : p2 (n : Int) = ((2 ^ n : Int) : Rat) := by
  unfold p2
  rw [Rat.zpow_natCast]
  simp
end Go.Proofs.YtceofkjefmilfaaGreatDoor

