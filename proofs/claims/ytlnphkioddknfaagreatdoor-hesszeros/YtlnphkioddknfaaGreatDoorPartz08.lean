/- Part 8 of the texts. -/
import Derived.Test.YtlnphkioddknfaaGreatDoorPartz06
import Derived.Test.YtlnphkioddknfaaGreatDoorPartz07
import Derived.Test.YtlnphkioddknfaaGreatDoorPartz05
import Derived.Test.YtlnphkioddknfaaGreatDoorPartz02
import Derived.RegionTactic
import Derived.BigRegion
import Derived.Deep.AppendLies
import Derived.Deep.RegionLaw
namespace Go.Proofs.YtlnphkioddknfaaGreatDoor
open Go.RowKit
theorem IsNum.right {B:Nat} {w:World} {v:Value} {x:Int} (h:IsNum B w v x) (hx:x.natAbs < TOP) :
  ∃ neg ao cap L,v = .agg #[.bool neg,.slice ao L.length cap]∧LimbsAt w ao cap L∧rightB neg L = true∧sval neg L = x∧L.length≤512:=by
 obtain ⟨neg,ao,cap,L,rfl,h1,h2,h3,h4,h5,h6⟩:=h
 have hl:L.length≤512:=(val_lt_TOP L h1.2.1 h3).1 (by omega)
 refine ⟨neg,ao,cap,L,rfl,h1,?_,?_,hl⟩
 ·have e0:L.length = 0→neg = false:=fun e=>by
   have:L = []:=List.length_eq_zero_iff.1 e
   subst this
   rw [h4];simp [val] at h5;simp;omega
  have e1:L.length = 0 ∨ L[L.length - 1]?.getD 0 ≠ 0:=by
   rcases h3 with h | h
   ·left;rw [h];rfl
   ·exact .inr h
  simp only [rightB,Bool.and_eq_true,decide_eq_true_eq,Bool.not_eq_true',Bool.and_eq_false_iff,decide_eq_false_iff_not,Bool.or_eq_true]
  refine ⟨⟨hl,?_⟩,e1⟩
  by_cases e:L.length = 0
  ·exact .inr (e0 e)
  ·exact .inl e
 ·unfold sval
  rw [h4]
  by_cases hx0:x < 0
  ·simp [hx0];omega
  ·simp [hx0];omega
theorem add_num {B B':Nat} {w:World} {v u:Value} {x y:Int} (hv:IsNum B w v x) (hu:IsNum B' w u y) (hx:x.natAbs < TOP) (hy:y.natAbs < TOP) :
  Calls Tryz.prog 285 #[v,u] w fun e w'=>∃ r,e = .returned (.tuple #[r,.int .i64 (errOf (x+y))])∧IsNum w.heap.size w' r (numOf (x+y))∧Below w.heap.size w w':=by
 obtain ⟨na,ao,ca,A,rfl,a1,a2,a3,a4⟩:=hv.right hx
 obtain ⟨nb,bo,cb,C,rfl,b1,b2,b3,b4⟩:=hu.right hy
 have:=add_any na nb ao bo ca cb A C w a1 b1 (by omega) (by omega)
 rwa [a2,b2,a3,b3,Bool.and_self,opErr_true,opNum_true] at this
theorem small_TOP (x:Nat) (h:x < 18446744073709551616):x < TOP:=by
 have:(4294967296 ^ 2:Nat)≤4294967296 ^ TOPN:=Nat.pow_le_pow_right (by decide) (by decide)
 unfold TOP
 omega
theorem errOf_small (x:Int) (h:x.natAbs < TOP):errOf x = 0:=by unfold errOf;rw [if_pos h]
theorem numOf_small (x:Int) (h:x.natAbs < TOP):numOf x = x:=by unfold numOf;rw [if_pos h]
end Go.Proofs.YtlnphkioddknfaaGreatDoor
namespace Go.Proofs.YtlnphkioddknfaaGreatDoor
open Go.RowKit
attribute [local go_sem ↓] Go.wp_at_zero Go.wp_at_succ
theorem Box2.other {w:World} {b:Nat} {x y:Value} (h:Box2 w b x y) {p:Addr} (hp:b ≠ p.block) (u:Value):Box2 (w.setCell p u) b x y:=(Below.heap_setCell w p u b hp).trans h
end Go.Proofs.YtlnphkioddknfaaGreatDoor
namespace Go.Proofs.YtlnphkioddknfaaGreatDoor
open Go.RowKit
theorem bits_nat (a b:Int):∃ y:Nat,y < 4294967296∧bits BinOp.xor IntKind.u32 a b = (y:Int):=by
 refine ⟨(bits BinOp.xor IntKind.u32 a b).toNat,?_,?_⟩
 all_goals
  have h:0≤bits BinOp.xor IntKind.u32 a b∧bits BinOp.xor IntKind.u32 a b < 4294967296:=by
   simp only [bits,IntKind.wrap,IntKind.signed,IntKind.bits]
   simp
   omega
  omega
end Go.Proofs.YtlnphkioddknfaaGreatDoor
namespace Go.Proofs.YtlnphkioddknfaaGreatDoor
open Go.RowKit
def shF (v:Nat) (m:Int):Nat:=if 0≤m then v * 2 ^ m.toNat else v / 2 ^ (-m).toNat
theorem shV_shF (neg:Bool) (L:List Nat) (n:Int):shV neg L n = sg neg (shF (val L) n):=rfl
theorem Box2.put {w:World} {b:Nat} {x y:Value} (h:Box2 w b x y) (u u':Value):Box2 ((w.setCell ⟨b,0,none⟩ u).setCell ⟨b,1,none⟩ u') b u u':=by
 have h1:=heap_setCell_same w b 0 _ _ u h
 have h2:=heap_setCell_same (w.setCell ⟨b,0,none⟩ u) b 1 _ _ u' h1
 unfold Box2
 rw [h2]
 simp
end Go.Proofs.YtlnphkioddknfaaGreatDoor
namespace Go.Proofs.YtlnphkioddknfaaGreatDoor
open Go.RowKit
attribute [local go_sem ↓] Go.wp_at_zero Go.wp_at_succ
def lt1 (n:Bool) (L:List Nat):Bool:=decide (L.length≤40) || !rightB n L
end Go.Proofs.YtlnphkioddknfaaGreatDoor
