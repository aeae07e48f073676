/- Part 37 of the texts. -/
import Derived.Test.YtimejpbmehegeaaGreatDoorPartd35
import Derived.Test.YtimejpbmehegeaaGreatDoorPartd18
import Derived.Test.YtimejpbmehegeaaGreatDoorPartd19
import Derived.Deep.Cut
import Derived.BigQuiet
import Derived.Test.YtimejpbmehegeaaGreatDoorPartd36
import Derived.Test.YtimejpbmehegeaaGreatDoorPartd34
import Derived.Maps.Own
import Derived.Maps.OwnOps
import Derived.Maps.OwnSet
import Derived.DeepKeys4
import Derived.Test.YtimejpbmehegeaaGreatDoorPartd11
import Derived.WalkSmall
import Derived.Test.YtimejpbmehegeaaGreatDoorPartd09
import Derived.Lib.BitFns
import Derived.Test.YtimejpbmehegeaaGreatDoorPartd08
import Derived.Test.YtimejpbmehegeaaGreatDoorPartd01
import Derived.Test.YtimejpbmehegeaaGreatDoorPartd31
import Derived.Test.YtimejpbmehegeaaGreatDoorPartd32
import Derived.Test.YtimejpbmehegeaaGreatDoorPartd23
/- Package certify: Square, Residual by letters. -/
namespace Go.Proofs.YtimejpbmehegeaaGreatDoor
open Go.RowKit
attribute [local go_sem ↓] Go.wp_at_zero Go.wp_at_succ
/-- Three matrices' boxes and the answer's. -/
def Bx3D (w W : World) (r c p q s d : Int) (ao bo co : Option Addr) (na nb nc ca cb cc : Nat) : Prop :=
  BoxM W w.heap.size (.int .i64 r) (.int .i64 c) (.slice ao na ca) ∧ BoxM W (w.heap.size + 1) (.int .i64 p) (.int .i64 q) (.slice bo nb cb) ∧ BoxM W (w.heap.size + 1 + 1) (.int .i64 s) (.int .i64 d) (.slice co nc cc) ∧ Box3 W (w.heap.size + 1 + 1 + 1) (.bool false) (.slice none 0 0) (.int .i64 0) ∧ Below w.heap.size w W
theorem Bx3D.all {w W W' : World} {r c p q s d : Int} {ao bo co : Option Addr} {na nb nc ca cb cc : Nat} (h : Bx3D w W r c p q s d ao bo co na nb nc ca cb cc) (hb : Below W.heap.size W W') : Bx3D w W' r c p q s d ao bo co na nb nc ca cb cc :=
  ⟨h.1.all hb, h.2.1.all hb, h.2.2.1.all hb, h.2.2.2.1.all hb, h.2.2.2.2.trans (hb.mono h.2.2.2.2.size)⟩
theorem Bx3D.start (w : World) (r c p q s d : Int) (ao bo co : Option Addr) (na nb nc ca cb cc : Nat) : Bx3D w ((((w.alloc (.cells #[.int .i64 r, .int .i64 c, .slice ao na ca] 36)).alloc (.cells #[.int .i64 p, .int .i64 q, .slice bo nb cb] 36)).alloc (.cells #[.int .i64 s, .int .i64 d, .slice co nc cc] 36)).alloc (.cells #[.bool false, .slice none 0 0, .int .i64 0] 54)) r c p q s d ao bo co na nb nc ca cb cc := by
  have b0 := below_alloc9 w (.cells #[.int .i64 r, .int .i64 c, .slice ao na ca] 36)
  have s0 := size_alloc9 w (.cells #[.int .i64 r, .int .i64 c, .slice ao na ca] 36)
  have x0 := BoxM.new w (.int .i64 r) (.int .i64 c) (.slice ao na ca)
  generalize w.alloc (.cells #[.int .i64 r, .int .i64 c, .slice ao na ca] 36) = w0 at *
  have b1 := below_alloc9 w0 (.cells #[.int .i64 p, .int .i64 q, .slice bo nb cb] 36)
  have s1 := size_alloc9 w0 (.cells #[.int .i64 p, .int .i64 q, .slice bo nb cb] 36)
  have x1 := BoxM.new w0 (.int .i64 p) (.int .i64 q) (.slice bo nb cb)
  generalize w0.alloc (.cells #[.int .i64 p, .int .i64 q, .slice bo nb cb] 36) = w1 at *
  have b2 := below_alloc9 w1 (.cells #[.int .i64 s, .int .i64 d, .slice co nc cc] 36)
  have s2 := size_alloc9 w1 (.cells #[.int .i64 s, .int .i64 d, .slice co nc cc] 36)
  have x2 := BoxM.new w1 (.int .i64 s) (.int .i64 d) (.slice co nc cc)
  generalize w1.alloc (.cells #[.int .i64 s, .int .i64 d, .slice co nc cc] 36) = w2 at *
  have b3 := below_alloc9 w2 (.cells #[.bool false, .slice none 0 0, .int .i64 0] 54)
  have x3 := Box3.new w2 (.bool false) (.slice none 0 0) (.int .i64 0)
  rw [s2, s1, s0] at x3
  rw [s1, s0] at x2
  rw [s0] at x1
  have bb := (b0.trans (b1.mono b0.size)).trans (b2.mono (Nat.le_trans b0.size b1.size))
  exact ⟨((x0.all b1).all b2).all b3, (x1.all b2).all b3, x2.all b3, x3, bb.trans (b3.mono bb.size)⟩

end Go.Proofs.YtimejpbmehegeaaGreatDoor

/- Package certify: Orthogonal by letters. -/
namespace Go.Proofs.YtimejpbmehegeaaGreatDoor
open Go.RowKit
attribute [local go_sem ↓] Go.wp_at_zero Go.wp_at_succ
theorem BoxM.oth3 {w : World} {b : Nat} {x y z : Value} (h : BoxM w b x y z) {g : Nat} (hg : b ≠ g) (u u' u'' : Value) : BoxM (((w.setCell ⟨g, 0, none⟩ u).setCell ⟨g, 1, none⟩ u').setCell ⟨g, 2, none⟩ u'') b x y z :=
  ((h.other (p := ⟨g, 0, none⟩) hg u).other (p := ⟨g, 1, none⟩) hg u').other (p := ⟨g, 2, none⟩) hg u''

end Go.Proofs.YtimejpbmehegeaaGreatDoor

/- Package certify: Square, Residual, Orthogonal, Gradient of matrices of finite numbers. -/
namespace Go.Proofs.YtimejpbmehegeaaGreatDoor
open Go.RowKit
theorem up_lvl (b : Nat) (hf : fFin b = true) : Lvl (-2148) 4200 (fZ b * 2 ^ 1074) := ⟨up_ltV (j := 2098) (k := 1074) (V := 4200) (by decide) (fZ_lt b hf), by decide, by decide, by decide⟩
theorem dt_lvl (n : Nat) (hn : n ≤ 8) (x y : Nat → Nat) (hx : ∀ j, j < n → fFin (x j) = true) (hy : ∀ j, j < n → fFin (y j) = true) : Lvl (-2148) 4200 (smI (fun j => fZ (x j) * fZ (y j)) n) :=
  (dtZ_lvl n hn x y hx hy).more (by decide) (by decide) (by decide)
theorem pr_lvl (a b : Nat) (ha : fFin a = true) (hb : fFin b = true) : Lvl (-2148) 4200 (fZ a * fZ b) :=
  (show Lvl (-2148) 4196 (fZ a * fZ b) from ⟨mul_ltV (j := 2098) (k := 2098) (V := 4196) (by decide) (fZ_lt a ha) (fZ_lt b hb), by decide, by decide, by decide⟩).more (by decide) (by decide) (by decide)

end Go.Proofs.YtimejpbmehegeaaGreatDoor

/- The mathematics of a row times a power of two, and of a turned matrix (ahead of CertifyRanks, CertifyScales). -/
namespace Go.Proofs.YtimejpbmehegeaaGreatDoor
theorem p2_int (n : Nat) : p2 (n : Int) = ((2 ^ n : Int) : Rat) := by
  unfold p2
  rw [Rat.zpow_natCast]
  simp
end Go.Proofs.YtimejpbmehegeaaGreatDoor

/- The turn of two numbers in the document's order; what it leaves, in exact numbers. Ahead of stage 12 (GivensOne, GivensRight, GivensKeeps). -/
namespace Go.Proofs.YtimejpbmehegeaaGreatDoor
theorem fQ_one12 : fQ 4607182418800017408 = 1 := by
  unfold fQ
  rw [fZ_one11, show ((2 ^ 1074 : Int) : Rat) = p2 (1074 : Nat) from (p2_int 1074).symm, ← p2_add]
  exact p2_0
theorem fQ_zero12 : fQ 0 = 0 := by
  unfold fQ
  rw [fZ_zero11]
  exact Rat.zero_mul _
theorem fin_one12 : fFin 4607182418800017408 = true := by decide +kernel
theorem fin_zero12 : fFin 0 = true := by decide +kernel
theorem ab_zero12 : ab 0 = 0 := by unfold ab; grind

end Go.Proofs.YtimejpbmehegeaaGreatDoor

