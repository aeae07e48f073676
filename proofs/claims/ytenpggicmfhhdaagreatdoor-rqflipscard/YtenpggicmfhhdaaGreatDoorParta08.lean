/- Part 8 of the texts. -/
import Derived.Test.YtenpggicmfhhdaaGreatDoorParta06
import Derived.Test.YtenpggicmfhhdaaGreatDoorParta07
import Derived.Test.YtenpggicmfhhdaaGreatDoorParta05
import Derived.Test.YtenpggicmfhhdaaGreatDoorParta02
import Derived.RegionTactic
import Derived.BigRegion
import Derived.Deep.AppendLies
import Derived.Laws.BitsAllLaws
set_option maxHeartbeats 1000000
namespace Go.Proofs.YtenpggicmfhhdaaGreatDoor
open Go.RowKit
theorem IsNum.right {B:Nat} {w:World} {v:Value} {x:Int} (h:IsNum B w v x) (hx:x.natAbs < TOP) :
  ∃ neg ao cap L,v = .agg #[.bool neg,.slice ao L.length cap]∧LimbsAt w ao cap L∧rightB neg L = true∧sval neg L = x∧L.length≤512:=by
 obtain ⟨neg,ao,cap,L,rfl,h1,h2,h3,h4,h5,h6⟩:=h
 have hl:L.length≤512:=(val_lt_TOP L h1.2.1 h3).1 (by omega)
 refine ⟨neg,ao,cap,L,rfl,h1,?_,?_,hl⟩
 ·have e0:L.length = 0→neg = false:=fun e=>by
   have:L = []:=List.length_eq_zero_iff.1 e
   subst this
   rw [h4];simp [val] at h5;simp;omega
  have e1:L.length = 0 ∨ L[L.length - 1]?.getD 0 ≠ 0:=by
   rcases h3 with h | h
   ·left;rw [h];rfl
   ·exact .inr h
  simp only [rightB,Bool.and_eq_true,decide_eq_true_eq,Bool.not_eq_true',Bool.and_eq_false_iff,decide_eq_false_iff_not,Bool.or_eq_true]
  refine ⟨⟨hl,?_⟩,e1⟩
  by_cases e:L.length = 0
  ·exact .inr (e0 e)
  ·exact .inl e
 ·unfold sval
  rw [h4]
  by_cases hx0:x < 0
  ·simp [hx0];omega
  ·simp [hx0];omega
theorem add_num {B B':Nat} {w:World} {v u:Value} {x y:Int} (hv:IsNum B w v x) (hu:IsNum B' w u y) (hx:x.natAbs < TOP) (hy:y.natAbs < TOP) :
  Calls Tryz.prog 193 #[v,u] w fun e w'=>∃ r,e = .returned (.tuple #[r,.int .i64 (errOf (x+y))])∧IsNum w.heap.size w' r (numOf (x+y))∧Below w.heap.size w w':=by
 obtain ⟨na,ao,ca,A,rfl,a1,a2,a3,a4⟩:=hv.right hx
 obtain ⟨nb,bo,cb,C,rfl,b1,b2,b3,b4⟩:=hu.right hy
 have:=add_any na nb ao bo ca cb A C w a1 b1 (by omega) (by omega)
 rwa [a2,b2,a3,b3,Bool.and_self,opErr_true,opNum_true] at this
theorem small_TOP (x:Nat) (h:x < 18446744073709551616):x < TOP:=by
 have:(4294967296 ^ 2:Nat)≤4294967296 ^ TOPN:=Nat.pow_le_pow_right (by decide) (by decide)
 unfold TOP
 omega
theorem errOf_small (x:Int) (h:x.natAbs < TOP):errOf x = 0:=by unfold errOf;rw [if_pos h]
theorem numOf_small (x:Int) (h:x.natAbs < TOP):numOf x = x:=by unfold numOf;rw [if_pos h]
end Go.Proofs.YtenpggicmfhhdaaGreatDoor
namespace Go.Proofs.YtenpggicmfhhdaaGreatDoor
open Go.RowKit
attribute [local go_sem ↓] Go.wp_at_zero Go.wp_at_succ
theorem Box2.other {w:World} {b:Nat} {x y:Value} (h:Box2 w b x y) {p:Addr} (hp:b ≠ p.block) (u:Value):Box2 (w.setCell p u) b x y:=(Below.heap_setCell w p u b hp).trans h
end Go.Proofs.YtenpggicmfhhdaaGreatDoor
namespace Go.Proofs.YtenpggicmfhhdaaGreatDoor
open Go.RowKit
theorem bits_nat (a b:Int):∃ y:Nat,y < 4294967296∧bits BinOp.xor IntKind.u32 a b = (y:Int):=by
 refine ⟨(bits BinOp.xor IntKind.u32 a b).toNat,?_,?_⟩
 all_goals
  have h:0≤bits BinOp.xor IntKind.u32 a b∧bits BinOp.xor IntKind.u32 a b < 4294967296:=by
   simp only [bits,IntKind.wrap,IntKind.signed,IntKind.bits]
   simp
   omega
  omega
end Go.Proofs.YtenpggicmfhhdaaGreatDoor
namespace Go.Proofs.YtenpggicmfhhdaaGreatDoor
open Go.RowKit
def shF (v:Nat) (m:Int):Nat:=if 0≤m then v * 2 ^ m.toNat else v / 2 ^ (-m).toNat
theorem shV_shF (neg:Bool) (L:List Nat) (n:Int):shV neg L n = sg neg (shF (val L) n):=rfl
theorem Box2.put {w:World} {b:Nat} {x y:Value} (h:Box2 w b x y) (u u':Value):Box2 ((w.setCell ⟨b,0,none⟩ u).setCell ⟨b,1,none⟩ u') b u u':=by
 have h1:=heap_setCell_same w b 0 _ _ u h
 have h2:=heap_setCell_same (w.setCell ⟨b,0,none⟩ u) b 1 _ _ u' h1
 unfold Box2
 rw [h2]
 simp
end Go.Proofs.YtenpggicmfhhdaaGreatDoor
namespace Go.Proofs.YtenpggicmfhhdaaGreatDoor
open Go.RowKit
def fits64 (x:Int):Bool:=decide (-9223372036854775808≤x∧x≤9223372036854775807)
def smE (neg:Bool) (L:List Nat):Int:=if rightB neg L then (if fits64 (sval neg L) then 0 else 2) else 1
def smV (neg:Bool) (L:List Nat):Int:=if rightB neg L && fits64 (sval neg L) then sval neg L else 0
theorem or_above (v x i:Nat) (hv:v < 2 ^ i):v ||| x * 2 ^ i = v+x * 2 ^ i:=by
 have:=Nat.two_pow_add_eq_or_of_lt hv x
 rw [Nat.mul_comm x,Nat.or_comm,← this];omega
theorem or_limb (v x k:Nat) (hk:k≤1) (hv:v < 4294967296 ^ k) (hx:x < 4294967296) :
  bits BinOp.or IntKind.u64 (v:Int) (IntKind.u64.wrap ((x:Int) * 2 ^ (k * 32))) = ((v+4294967296 ^ k * x:Nat):Int):=by
 rcases (show k = 0 ∨ k = 1 by omega) with rfl | rfl
 ·have e:IntKind.u64.wrap ((x:Int) * 2 ^ (0 * 32)) = ((x:Nat):Int):=by
   simp only [IntKind.wrap,IntKind.signed,IntKind.bits];simp;omega
  rw [e,u64_or_nat v x (by simp at hv;omega) (by omega)]
  have:v = 0:=by simpa using hv
  subst this;simp
 ·have e:IntKind.u64.wrap ((x:Int) * 2 ^ (1 * 32)) = ((x * 2 ^ 32:Nat):Int):=by
   simp only [IntKind.wrap,IntKind.signed,IntKind.bits];simp;omega
  rw [e,u64_or_nat v (x * 2 ^ 32) (by simp at hv;omega) (by omega),or_above v x 32 (by simpa using hv)]
  congr 1
  simp;omega
theorem wrap_back (v:Nat) (hv:v≤9223372036854775808):wrap64 (IntKind.u64.wrap (-(v:Int))) = -(v:Int):=by
 unfold wrap64
 simp only [IntKind.wrap,IntKind.signed,IntKind.bits]
 simp
 omega
theorem small_right (neg:Bool) (ao:Option Addr) (cap:Nat) (L:List Nat) (w:World) (h:LimbsAt w ao cap L) (hr:rightB neg L = true) (hl:L.length≤2) :
  Calls Tryz.prog 163 #[.agg #[.bool neg,.slice ao L.length cap]] w fun e w'=>e = .returned (.tuple #[.int .i64 (smV neg L),.int .i64 (smE neg L)])∧Below w.heap.size w w':=by
 have hck:=check_any neg ao cap L (w.alloc (.cells #[.bool neg,.slice ao L.length cap] 108)) (h.below ((Below.refl _ _).alloc (Nat.le_refl _) _)) (by omega)
 have hz:chkE neg L = 0:=by simp [chkE,hr]
 rw [hz] at hck
 have hF:(neg = true→val L≤9223372036854775808→smV neg L = -(val L:Int)∧smE neg L = 0)∧(neg = true→9223372036854775808 < val L→smV neg L = 0∧smE neg L = 2)∧(neg = false→val L < 9223372036854775808→smV neg L = (val L:Int)∧smE neg L = 0)∧(neg = false→9223372036854775808≤val L→smV neg L = 0∧smE neg L = 2):=by
  unfold smV smE
  rw [hr]
  refine ⟨?_,?_,?_,?_⟩ <;> (rintro rfl hv;simp only [sval,fits64,if_true,Bool.true_and,Bool.false_eq_true,if_false])
  ·rw [decide_eq_true (by omega)];simp
  ·rw [decide_eq_false (by omega)];simp
  ·rw [decide_eq_true (by omega)];simp
  ·rw [decide_eq_false (by omega)];simp
 have HF:=hide hF
 clear hF
 generalize smV neg L = r at *
 generalize smE neg L = e2 at *
 have HCK:=hide hck
 clear hck hz hr
 go_enter Tryz.func163,Tryz.ntmps163
 go_wp2_with fail
 refine (uH HCK).mono ?_
 rintro e w1 ⟨rfl,hb1⟩
 have x0:Box2 w1 w.heap.size (.bool neg) (.slice ao L.length cap):=(Box2.new _ _ _).below hb1 (by simp)
 have p0:=x0.c0;have p1:=x0.c1
 have bel:Below w.heap.size w w1:=((Below.refl _ _).alloc (Nat.le_refl _) _).trans (hb1.mono (by simp))
 clear x0 hb1 HCK
 go_wp2
 go_loop [5,19] (fun s i=>∃ k:Nat,k≤L.length∧i = .int .i64 k∧s = .int .u64 ((val (L.take k):Nat):Int)) (fun _ i=>L.length - (intOf i).toNat)
 case atStart=>exact ⟨0,Nat.zero_le _,rfl,by simp [val]⟩
 case round =>
  obtain ⟨k,hk,rfl,rfl⟩:=hrel
  by_cases hlt:k < L.length
  ·obtain ⟨b,off,hao,hb,hc⟩:=h.ne (by omega)
   have c1:=hc k hlt
   have d1:w1.cell? ⟨b,off+k,none⟩ = some (.int .u32 ((L[k]?.getD 0:Nat):Int)):=by rw [bel.cell (p:=⟨b,off+k,none⟩) hb];exact c1
   have hx:=h.lt k
   have hv:=val_take_lt L h.2.1 k
   have hvs:=val_take_succ L k
   have HVS:=hide hvs
   clear c1 hc hvs
   generalize L[k]?.getD 0 = x at *
   generalize hvk:val (L.take k) = v at *
   clear hvk h
   subst hao
   have hk1:k≤1:=by omega
   have hor:=or_limb v x k hk1 hv hx
   have HOR:=hide hor
   clear hor
   go_wp2
   go_round
   case rel=>exact ⟨k+1,by omega,by go_num,int_eq (by rw [uH HOR,uH HVS])⟩
   case measure=>simp [intOf];omega
  ·have hkl:k = L.length:=by omega
   rw [hkl,List.take_length]
   clear hkl hk hlt
   have hvl:=val_lt L h.2.1
   have hv64:val L < 18446744073709551616:=by
    refine Nat.lt_of_lt_of_le hvl ?_
    have:=Nat.pow_le_pow_right (n:=4294967296) (by decide) hl
    simpa using this
   generalize val L = v at *
   clear hvl h
   cases neg
   ·rcases Nat.lt_or_ge v 9223372036854775808 with hv | hv
    ·have H:=hide ((uH HF).2.2.1 rfl hv)
     have hv':(v:Int) < 9223372036854775808:=by omega
     clear HF hv hv64
     go_wp2
     go_ret2
     exact ⟨ret_int2 (uH H).1.symm (uH H).2.symm,bel⟩
    ·have H:=hide ((uH HF).2.2.2 rfl hv)
     have hv':¬ (v:Int) < 9223372036854775808:=by omega
     clear HF
     go_wp2
     go_ret2
     exact ⟨ret_int2 (uH H).1.symm (uH H).2.symm,bel⟩
   ·rcases Nat.lt_or_ge 9223372036854775808 v with hv | hv
    ·have H:=hide ((uH HF).2.1 rfl hv)
     have hv':¬ (v:Int)≤9223372036854775808:=by omega
     clear HF
     go_wp2
     go_ret2
     exact ⟨ret_int2 (uH H).1.symm (uH H).2.symm,bel⟩
    ·have H:=hide ((uH HF).1 rfl hv)
     clear HF
     go_wp2
     go_ret2
     refine ⟨ret_int2 ?_ (uH H).2.symm,bel⟩
     rw [(uH H).1]
     exact wrap_back v hv
theorem small_any (neg:Bool) (ao:Option Addr) (cap:Nat) (L:List Nat) (w:World) (h:LimbsAt w ao cap L) (hl:L.length≤35184372088830) :
  Calls Tryz.prog 163 #[.agg #[.bool neg,.slice ao L.length cap]] w fun e w'=>e = .returned (.tuple #[.int .i64 (smV neg L),.int .i64 (smE neg L)])∧Below w.heap.size w w':=by
 cases hr:rightB neg L
 ·have hck:=check_any neg ao cap L (w.alloc (.cells #[.bool neg,.slice ao L.length cap] 108)) (h.below ((Below.refl _ _).alloc (Nat.le_refl _) _)) hl
  have hz:chkE neg L = 1:=by simp [chkE,hr]
  rw [hz] at hck
  have HCK:=hide hck
  have H:=hide (show smV neg L = 0∧smE neg L = 1 by simp [smV,smE,hr])
  generalize smV neg L = r at *
  generalize smE neg L = e2 at *
  clear hck hz hr
  go_enter Tryz.func163,Tryz.ntmps163
  go_wp2_with fail
  refine (uH HCK).mono ?_
  rintro e w1 ⟨rfl,hb1⟩
  go_wp2
  go_ret2
  exact ⟨ret_int2 (uH H).1.symm (uH H).2.symm,((Below.refl _ _).alloc (Nat.le_refl _) _).trans (hb1.mono (by simp))⟩
 ·by_cases h2:L.length≤2
  ·exact small_right neg ao cap L w h hr h2
  ·have hck:=check_any neg ao cap L (w.alloc (.cells #[.bool neg,.slice ao L.length cap] 108)) (h.below ((Below.refl _ _).alloc (Nat.le_refl _) _)) hl
   have hz:chkE neg L = 0:=by simp [chkE,hr]
   rw [hz] at hck
   have HCK:=hide hck
   have hbig:18446744073709551616≤val L:=by
    rcases (right_canon hr).2.1 with e | e
    ·rw [e] at h2;simp at h2
    ·have h3:=val_ge L e
     have h4:=Nat.pow_le_pow_right (n:=4294967296) (by decide) (show 2≤L.length - 1 by omega)
     simp at h4;omega
   have hf:fits64 (sval neg L) = false:=by
    unfold fits64 sval
    rw [decide_eq_false_iff_not]
    cases neg <;> simp <;> omega
   have H:=hide (show smV neg L = 0∧smE neg L = 2 by simp [smV,smE,hr,hf])
   generalize smV neg L = r at *
   generalize smE neg L = e2 at *
   clear hck hz hr hbig hf
   go_enter Tryz.func163,Tryz.ntmps163
   go_wp2_with fail
   refine (uH HCK).mono ?_
   rintro e w1 ⟨rfl,hb1⟩
   have x0:Box2 w1 w.heap.size (.bool neg) (.slice ao L.length cap):=(Box2.new _ _ _).below hb1 (by simp)
   have p0:=x0.c0;have p1:=x0.c1
   have bel:Below w.heap.size w w1:=((Below.refl _ _).alloc (Nat.le_refl _) _).trans (hb1.mono (by simp))
   clear x0 hb1 HCK
   go_wp2
   go_ret2
   exact ⟨ret_int2 (uH H).1.symm (uH H).2.symm,bel⟩
end Go.Proofs.YtenpggicmfhhdaaGreatDoor
