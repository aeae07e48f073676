/- Part 8 of the texts. -/
import Derived.Test.YtcbcmlaogehimaaGreatDoorPartc05
import Derived.Test.YtcbcmlaogehimaaGreatDoorPartc06
import Derived.Laws.BitsAllLaws
import Derived.Test.YtcbcmlaogehimaaGreatDoorPartc02
import Derived.Test.YtcbcmlaogehimaaGreatDoorPartc07
import Derived.Test.YtcbcmlaogehimaaGreatDoorPartc04
import Derived.Shelf.Spec.TrailingZeros
set_option maxHeartbeats 4000000
set_option maxRecDepth 20000
namespace Go.Proofs.YtcbcmlaogehimaaGreatDoor
open Go.RowKit
def fits64 (x:Int):Bool:=decide (-9223372036854775808≤x∧x≤9223372036854775807)
def smE (neg:Bool) (L:List Nat):Int:=if rightB neg L then (if fits64 (sval neg L) then 0 else 2) else 1
def smV (neg:Bool) (L:List Nat):Int:=if rightB neg L && fits64 (sval neg L) then sval neg L else 0
theorem or_above (v x i:Nat) (hv:v < 2 ^ i):v ||| x * 2 ^ i = v+x * 2 ^ i:=by
 have:=Nat.two_pow_add_eq_or_of_lt hv x
 rw [Nat.mul_comm x,Nat.or_comm,← this];omega
theorem or_limb (v x k:Nat) (hk:k≤1) (hv:v < 4294967296 ^ k) (hx:x < 4294967296) :
  bits BinOp.or IntKind.u64 (v:Int) (IntKind.u64.wrap ((x:Int) * 2 ^ (k * 32))) = ((v+4294967296 ^ k * x:Nat):Int):=by
 rcases (show k = 0 ∨ k = 1 by omega) with rfl | rfl
 ·have e:IntKind.u64.wrap ((x:Int) * 2 ^ (0 * 32)) = ((x:Nat):Int):=by
   simp only [IntKind.wrap,IntKind.signed,IntKind.bits];simp;omega
  rw [e,u64_or_nat v x (by simp at hv;omega) (by omega)]
  have:v = 0:=by simpa using hv
  subst this;simp
 ·have e:IntKind.u64.wrap ((x:Int) * 2 ^ (1 * 32)) = ((x * 2 ^ 32:Nat):Int):=by
   simp only [IntKind.wrap,IntKind.signed,IntKind.bits];simp;omega
  rw [e,u64_or_nat v (x * 2 ^ 32) (by simp at hv;omega) (by omega),or_above v x 32 (by simpa using hv)]
  congr 1
  simp;omega
theorem wrap_back (v:Nat) (hv:v≤9223372036854775808):wrap64 (IntKind.u64.wrap (-(v:Int))) = -(v:Int):=by
 unfold wrap64
 simp only [IntKind.wrap,IntKind.signed,IntKind.bits]
 simp
 omega
theorem small_right (neg:Bool) (ao:Option Addr) (cap:Nat) (L:List Nat) (w:World) (h:LimbsAt w ao cap L) (hr:rightB neg L = true) (hl:L.length≤2) :
  Calls Tryz.prog 290 #[.agg #[.bool neg,.slice ao L.length cap]] w fun e w'=>e = .returned (.tuple #[.int .i64 (smV neg L),.int .i64 (smE neg L)])∧Below w.heap.size w w':=by
 have hck:=check_any neg ao cap L (w.alloc (.cells #[.bool neg,.slice ao L.length cap] 33)) (h.below ((Below.refl _ _).alloc (Nat.le_refl _) _)) (by omega)
 have hz:chkE neg L = 0:=by simp [chkE,hr]
 rw [hz] at hck
 have hF:(neg = true→val L≤9223372036854775808→smV neg L = -(val L:Int)∧smE neg L = 0)∧(neg = true→9223372036854775808 < val L→smV neg L = 0∧smE neg L = 2)∧(neg = false→val L < 9223372036854775808→smV neg L = (val L:Int)∧smE neg L = 0)∧(neg = false→9223372036854775808≤val L→smV neg L = 0∧smE neg L = 2):=by
  unfold smV smE
  rw [hr]
  refine ⟨?_,?_,?_,?_⟩ <;> (rintro rfl hv;simp only [sval,fits64,if_true,Bool.true_and,Bool.false_eq_true,if_false])
  ·rw [decide_eq_true (by omega)];simp
  ·rw [decide_eq_false (by omega)];simp
  ·rw [decide_eq_true (by omega)];simp
  ·rw [decide_eq_false (by omega)];simp
 have HF:=hide hF
 clear hF
 generalize smV neg L = r at *
 generalize smE neg L = e2 at *
 have HCK:=hide hck
 clear hck hz hr
 go_enter Tryz.func290,Tryz.ntmps290
 go_wp2_with fail
 refine (uH HCK).mono ?_
 rintro e w1 ⟨rfl,hb1⟩
 have x0:Box2 w1 w.heap.size (.bool neg) (.slice ao L.length cap):=(Box2.new _ _ _).below hb1 (by simp)
 have p0:=x0.c0;have p1:=x0.c1
 have bel:Below w.heap.size w w1:=((Below.refl _ _).alloc (Nat.le_refl _) _).trans (hb1.mono (by simp))
 clear x0 hb1 HCK
 go_wp2
 go_loop [5,19] (fun s i=>∃ k:Nat,k≤L.length∧i = .int .i64 k∧s = .int .u64 ((val (L.take k):Nat):Int)) (fun _ i=>L.length - (intOf i).toNat)
 case atStart=>exact ⟨0,Nat.zero_le _,rfl,by simp [val]⟩
 case round =>
  obtain ⟨k,hk,rfl,rfl⟩:=hrel
  by_cases hlt:k < L.length
  ·obtain ⟨b,off,hao,hb,hc⟩:=h.ne (by omega)
   have c1:=hc k hlt
   have d1:w1.cell? ⟨b,off+k,none⟩ = some (.int .u32 ((L[k]?.getD 0:Nat):Int)):=by rw [bel.cell (p:=⟨b,off+k,none⟩) hb];exact c1
   have hx:=h.lt k
   have hv:=val_take_lt L h.2.1 k
   have hvs:=val_take_succ L k
   have HVS:=hide hvs
   clear c1 hc hvs
   generalize L[k]?.getD 0 = x at *
   generalize hvk:val (L.take k) = v at *
   clear hvk h
   subst hao
   have hk1:k≤1:=by omega
   have hor:=or_limb v x k hk1 hv hx
   have HOR:=hide hor
   clear hor
   go_wp2
   go_round
   case rel=>exact ⟨k+1,by omega,by go_num,int_eq (by rw [uH HOR,uH HVS])⟩
   case measure=>simp [intOf];omega
  ·have hkl:k = L.length:=by omega
   rw [hkl,List.take_length]
   clear hkl hk hlt
   have hvl:=val_lt L h.2.1
   have hv64:val L < 18446744073709551616:=by
    refine Nat.lt_of_lt_of_le hvl ?_
    have:=Nat.pow_le_pow_right (n:=4294967296) (by decide) hl
    simpa using this
   generalize val L = v at *
   clear hvl h
   cases neg
   ·rcases Nat.lt_or_ge v 9223372036854775808 with hv | hv
    ·have H:=hide ((uH HF).2.2.1 rfl hv)
     have hv':(v:Int) < 9223372036854775808:=by omega
     clear HF hv hv64
     go_wp2
     go_ret2
     exact ⟨ret_int2 (uH H).1.symm (uH H).2.symm,bel⟩
    ·have H:=hide ((uH HF).2.2.2 rfl hv)
     have hv':¬ (v:Int) < 9223372036854775808:=by omega
     clear HF
     go_wp2
     go_ret2
     exact ⟨ret_int2 (uH H).1.symm (uH H).2.symm,bel⟩
   ·rcases Nat.lt_or_ge 9223372036854775808 v with hv | hv
    ·have H:=hide ((uH HF).2.1 rfl hv)
     have hv':¬ (v:Int)≤9223372036854775808:=by omega
     clear HF
     go_wp2
     go_ret2
     exact ⟨ret_int2 (uH H).1.symm (uH H).2.symm,bel⟩
    ·have H:=hide ((uH HF).1 rfl hv)
     clear HF
     go_wp2
     go_ret2
     refine ⟨ret_int2 ?_ (uH H).2.symm,bel⟩
     rw [(uH H).1]
     exact wrap_back v hv
theorem small_any (neg:Bool) (ao:Option Addr) (cap:Nat) (L:List Nat) (w:World) (h:LimbsAt w ao cap L) (hl:L.length≤35184372088830) :
  Calls Tryz.prog 290 #[.agg #[.bool neg,.slice ao L.length cap]] w fun e w'=>e = .returned (.tuple #[.int .i64 (smV neg L),.int .i64 (smE neg L)])∧Below w.heap.size w w':=by
 cases hr:rightB neg L
 ·have hck:=check_any neg ao cap L (w.alloc (.cells #[.bool neg,.slice ao L.length cap] 33)) (h.below ((Below.refl _ _).alloc (Nat.le_refl _) _)) hl
  have hz:chkE neg L = 1:=by simp [chkE,hr]
  rw [hz] at hck
  have HCK:=hide hck
  have H:=hide (show smV neg L = 0∧smE neg L = 1 by simp [smV,smE,hr])
  generalize smV neg L = r at *
  generalize smE neg L = e2 at *
  clear hck hz hr
  go_enter Tryz.func290,Tryz.ntmps290
  go_wp2_with fail
  refine (uH HCK).mono ?_
  rintro e w1 ⟨rfl,hb1⟩
  go_wp2
  go_ret2
  exact ⟨ret_int2 (uH H).1.symm (uH H).2.symm,((Below.refl _ _).alloc (Nat.le_refl _) _).trans (hb1.mono (by simp))⟩
 ·by_cases h2:L.length≤2
  ·exact small_right neg ao cap L w h hr h2
  ·have hck:=check_any neg ao cap L (w.alloc (.cells #[.bool neg,.slice ao L.length cap] 33)) (h.below ((Below.refl _ _).alloc (Nat.le_refl _) _)) hl
   have hz:chkE neg L = 0:=by simp [chkE,hr]
   rw [hz] at hck
   have HCK:=hide hck
   have hbig:18446744073709551616≤val L:=by
    rcases (right_canon hr).2.1 with e | e
    ·rw [e] at h2;simp at h2
    ·have h3:=val_ge L e
     have h4:=Nat.pow_le_pow_right (n:=4294967296) (by decide) (show 2≤L.length - 1 by omega)
     simp at h4;omega
   have hf:fits64 (sval neg L) = false:=by
    unfold fits64 sval
    rw [decide_eq_false_iff_not]
    cases neg <;> simp <;> omega
   have H:=hide (show smV neg L = 0∧smE neg L = 2 by simp [smV,smE,hr,hf])
   generalize smV neg L = r at *
   generalize smE neg L = e2 at *
   clear hck hz hr hbig hf
   go_enter Tryz.func290,Tryz.ntmps290
   go_wp2_with fail
   refine (uH HCK).mono ?_
   rintro e w1 ⟨rfl,hb1⟩
   have x0:Box2 w1 w.heap.size (.bool neg) (.slice ao L.length cap):=(Box2.new _ _ _).below hb1 (by simp)
   have p0:=x0.c0;have p1:=x0.c1
   have bel:Below w.heap.size w w1:=((Below.refl _ _).alloc (Nat.le_refl _) _).trans (hb1.mono (by simp))
   clear x0 hb1 HCK
   go_wp2
   go_ret2
   exact ⟨ret_int2 (uH H).1.symm (uH H).2.symm,bel⟩
theorem refOf_any (n:Int) (w:World) (h0:-9223372036854775808≤n) (h1:n≤9223372036854775807) :
  Calls Tryz.prog 28 #[.int .i64 n] w fun e w'=>∃ v,e = .returned v∧IsNumM 2 w.heap.size w' v n∧Below w.heap.size w w':=by
 obtain ⟨m,hm⟩:∃ m,m = n.natAbs:=⟨_,rfl⟩
 have hf:Fits [m % 4294967296,m / 4294967296]:=by intro x hx;simp at hx;omega
 have HF:=hide hf
 have HM:=hide hm
 clear hf hm
 by_cases hn:n < 0
 ·have hs:sval true [m % 4294967296,m / 4294967296] = n:=by
   have:=uH HM
   unfold sval;rw [if_pos rfl,val_two];omega
  have HS:=hide hs
  clear hs
  go_enter Tryz.func28,Tryz.ntmps28
  go_wp2_with fail
  have hm:=uH HM
  have hR:=two_row (w.alloc (.cells #[.bool false,.slice none 0 0] 33)) (w.heap.size+1) ((-(n+1)+1) % 4294967296) ((-(n+1)+1) / 4294967296) (m % 4294967296) (m / 4294967296) (by simp) (by omega) (by omega)
  refine (made_any (w.heap.size+1) true (some ⟨w.heap.size+1,0,none⟩) 2 [m % 4294967296,m / 4294967296] _ (hR.limbs (uH HF) 2 (by simp)) (.inr ⟨_,_,rfl,Nat.le_refl _⟩) (by simp)).mono ?_
  rw [uH HS]
  rintro e w1 ⟨v,rfl,⟨n2,a2,c2,L2,rfl,i1⟩,hb1⟩
  have r1:Box2 w1 w.heap.size (.bool false) (.slice none 0 0):=((Box2.new _ _ _).old _).below hb1 (by simp;omega)
  have y0:=r1.c0;have y1:=r1.c1;have f0:=r1.free 0;have f1:=r1.free 1
  have I1:=hide i1
  have HB1:=hide ((((Below.refl _ w).alloc (Nat.le_refl _) (.cells #[.bool false,.slice none 0 0] 33)).alloc (by simp) _).trans (hb1.mono (by simp;omega)))
  clear i1 hb1 r1 hR hm
  go_wp2
  refine bodyPost_ret (v:=.agg #[.bool n2,.slice a2 L2.length c2]) (by simp [results,Tryz.results28,go_sem,y0,y1]) rfl ⟨.agg #[.bool n2,.slice a2 L2.length c2],rfl,?_,?_⟩
  ·exact IsNumM.stored (uH I1) (by simp) (by simp) (by omega) _ _
  ·exact ((uH HB1).setCell (by simp) _).setCell (by simp) _
 ·have hs:sval false [m % 4294967296,m / 4294967296] = n:=by
   have:=uH HM
   unfold sval;rw [if_neg (by decide),val_two];omega
  have HS:=hide hs
  clear hs
  go_enter Tryz.func28,Tryz.ntmps28
  go_wp2_with fail
  have hm:=uH HM
  have hR:=two_row (w.alloc (.cells #[.bool false,.slice none 0 0] 33)) (w.heap.size+1) (n % 4294967296) (n / 4294967296) (m % 4294967296) (m / 4294967296) (by simp) (by omega) (by omega)
  refine (made_any (w.heap.size+1) false (some ⟨w.heap.size+1,0,none⟩) 2 [m % 4294967296,m / 4294967296] _ (hR.limbs (uH HF) 2 (by simp)) (.inr ⟨_,_,rfl,Nat.le_refl _⟩) (by simp)).mono ?_
  rw [uH HS]
  rintro e w1 ⟨v,rfl,⟨n2,a2,c2,L2,rfl,i1⟩,hb1⟩
  have r1:Box2 w1 w.heap.size (.bool false) (.slice none 0 0):=((Box2.new _ _ _).old _).below hb1 (by simp;omega)
  have y0:=r1.c0;have y1:=r1.c1;have f0:=r1.free 0;have f1:=r1.free 1
  have I1:=hide i1
  have HB1:=hide ((((Below.refl _ w).alloc (Nat.le_refl _) (.cells #[.bool false,.slice none 0 0] 33)).alloc (by simp) _).trans (hb1.mono (by simp;omega)))
  clear i1 hb1 r1 hR hm
  go_wp2
  refine bodyPost_ret (v:=.agg #[.bool n2,.slice a2 L2.length c2]) (by simp [results,Tryz.results28,go_sem,y0,y1]) rfl ⟨.agg #[.bool n2,.slice a2 L2.length c2],rfl,?_,?_⟩
  ·exact IsNumM.stored (uH I1) (by simp) (by simp) (by omega) _ _
  ·exact ((uH HB1).setCell (by simp) _).setCell (by simp) _
end Go.Proofs.YtcbcmlaogehimaaGreatDoor
namespace Go.Proofs.YtcbcmlaogehimaaGreatDoor
open Go.RowKit
def Tab (w:World):Prop:=TabAt 1 Lib.deBruijn32tab w
theorem Tab.below {w w':World} {B:Nat} (h:Tab w) (hb:Below B w w') (h0:1 < B):Tab w':=fun j hj=>by
 rw [hb.cell (p:=⟨1,j,none⟩) h0]
 exact h j hj
theorem Tab.pos {w:World} (h:Tab w):1 < w.heap.size:=World.block_lt_of_cell? w _ (h 0 (by decide))
theorem Tab.all {w w':World} (h:Tab w) (hb:Below w.heap.size w w'):Tab w':=h.below hb h.pos
theorem tz32_core (x k idx:Nat) (w:World) (hx0:((x:Int) == 0) = false)
  (key:bits BinOp.and IntKind.u32 (x:Int) (-(x:Int) % 4294967296) * 125613361 % 4294967296 / 134217728 = (idx:Int))
  (hi:idx < 32) (hk:k < 32) (hcell:w.cell? ⟨1,idx,none⟩ = some (.int .u8 k)) :
  Calls Tryz.prog 265 #[.int .u32 x] w fun e w'=>e = .returned (.int .i64 k)∧w = w':=by
 go_enter Tryz.func265,Tryz.ntmps265
 go_wp2_with (simp only [key])
 go_ret
 exact ⟨rfl,rfl⟩
theorem tz32_any (x:Nat) (w:World) (hx:x < 4294967296) (hT:Tab w) :
  Calls Tryz.prog 265 #[.int .u32 x] w fun e w'=>e = .returned (.int .i64 (Lib.ctz 32 x))∧w = w':=by
 by_cases hx0:x = 0
 ·subst hx0
  go_enter Tryz.func265,Tryz.ntmps265
  go_wp2
  go_ret
  exact ⟨rfl,rfl⟩
 ·obtain ⟨hlow,hk⟩:=Lib.lowest_bit 32 x hx0 hx
  obtain ⟨hi,htab⟩:=Lib.deBruijn32_at _ hk
  have hcell:=hT _ hi
  rw [htab] at hcell
  exact tz32_core x _ _ w (by simp;omega) (tz32_key x _ hx hx0 hlow) hi hk hcell
theorem within_any (n m:Int) (w:World) (hm:0≤m) (hm2:m≤100000) :
  Calls Tryz.prog 236 #[.int .i64 n,.int .i64 m] w fun e w'=>e = .returned (.bool (decide (-m≤n∧n≤m)))∧w = w':=by
 have hw:IntKind.i64.wrap (-m) = -m:=by
  simp only [IntKind.wrap,IntKind.signed,IntKind.bits]
  simp
  omega
 by_cases h1:-m≤n
 ·by_cases h2:n≤m
  ·go_enter Tryz.func236,Tryz.ntmps236
   go_wp2
   go_ret
   exact ⟨ret_bool (by simp [h1,h2]),rfl⟩
  ·go_enter Tryz.func236,Tryz.ntmps236
   go_wp2
   go_ret
   exact ⟨ret_bool (by simp [h2]),rfl⟩
 ·have h3:¬ (-m≤n∧n≤m):=fun h=>h1 h.1
  have H3:=hide (decide_eq_false h3)
  rw [uH H3]
  clear h3 H3
  go_enter Tryz.func236,Tryz.ntmps236
  go_wp2
  go_ret
  exact ⟨rfl,rfl⟩
theorem isZero_any (neg:Bool) (ao:Option Addr) (cap:Nat) (n:Nat) (w:World) :
  Calls Tryz.prog 237 #[.agg #[.bool neg,.slice ao n cap]] w fun e w'=>e = .returned (.bool (decide (n = 0)))∧Below w.heap.size w w':=by
 by_cases h0:n = 0
 ·subst h0
  go_enter Tryz.func237,Tryz.ntmps237
  go_wp2
  go_ret
  exact ⟨rfl,(Below.refl _ _).alloc (Nat.le_refl _) _⟩
 ·have h1:((n:Int) == 0) = false:=by simp;omega
  have H:=hide (decide_eq_false h0)
  clear h0
  go_enter Tryz.func237,Tryz.ntmps237
  go_wp2
  go_ret
  exact ⟨ret_bool (uH H).symm,(Below.refl _ _).alloc (Nat.le_refl _) _⟩
def sgnB (neg:Bool) (n:Nat):Int:=if n = 0 then 0 else if neg then -1 else 1
def lowZ (v:Nat):Int:=if v = 0 then 0 else (tz v:Int)
theorem lowZ_pos (v:Nat) (h:v ≠ 0):lowZ v = tz v:=by unfold lowZ;rw [if_neg h]
theorem lowZeros_any (neg:Bool) (ao:Option Addr) (cap:Nat) (L:List Nat) (w:World) (h:LimbsAt w ao cap L) (hl:L.length≤1073741824) (hT:Tab w) :
  Calls Tryz.prog 235 #[.agg #[.bool neg,.slice ao L.length cap]] w fun e w'=>e = .returned (.int .i64 (lowZ (val L)))∧Below w.heap.size w w':=by
 by_cases hne:L = []
 ·subst hne
  go_enter Tryz.func235,Tryz.ntmps235
  go_wp2
  refine wp_loop_rounds 1 ?_
  rw [rounds_succ]
  go_wp2
  go_ret
  exact ⟨rfl,(Below.refl _ _).alloc (Nat.le_refl _) _⟩
 obtain ⟨b,off,rfl,hb,hc⟩:=h.ne (List.length_pos_iff.2 hne)
 have hcap:=h.1
 have hb0:Below w.heap.size w (w.alloc (.cells #[.bool neg,.slice (some ⟨b,off,none⟩) L.length cap] 33)):=(Below.refl _ _).alloc (Nat.le_refl _) _
 have hc':∀ i,i < L.length→(w.alloc (.cells #[.bool neg,.slice (some ⟨b,off,none⟩) L.length cap] 33)).cell? ⟨b,off+i,none⟩ = some (.int .u32 ((L[i]?.getD 0:Nat):Int)):=fun i hi=>by
  rw [hb0.cell (p:=⟨b,off+i,none⟩) hb];exact hc i hi
 have hT':=hT.all hb0
 have HR:=hide (fun k x=>tz_limbs L k x)
 have HZ:=hide (fun h:val L = 0=>(show lowZ (val L) = 0 by rw [h];rfl))
 have HP:=hide (fun h=>lowZ_pos (val L) h)
 have HF:=hide (fun i=>h.lt i)
 have HV:=hide (fun k (hk:L.length≤k)=>val_take_all L k hk)
 have HS:=hide (fun k=>val_take_succ L k)
 have HB0:=hide hb0
 clear hT hc h hb hne hb0
 generalize lowZ (val L) = z at *
 go_enter Tryz.func235,Tryz.ntmps235
 go_wp2
 go_loop [3,9] (fun c i=>∃ k:Nat,k≤L.length∧i = .int .i64 k∧c = .int .i64 (32 * (k:Int))∧Hid (val (L.take k) = 0)) (fun _ i=>L.length - (intOf i).toNat)
 case atStart=>exact ⟨0,Nat.zero_le _,rfl,rfl,by unfold Hid;simp [val]⟩
 case round =>
  obtain ⟨k,hk,rfl,rfl,hv⟩:=hrel
  by_cases hlt:k < L.length
  ·have hc1:=hc' k hlt
   clear hc'
   have hx:=uH HF k
   have HS1:=hide (uH HS k)
   have HR1:=hide (fun h0=>uH HR k _ hv.out rfl h0 hx)
   clear HR HZ HS HF HV
   generalize L[k]?.getD 0 = x at *
   have TZ:=hide (tz32_any x _ hx hT')
   have hx32:(Lib.ctz 32 x:Int)≤32∧(0:Int)≤Lib.ctz 32 x:=by
    by_cases h0:x = 0
    ·subst h0;decide
    ·have:=(Lib.lowest_bit 32 x h0 (by omega)).2
     omega
   have HTC:=hide (fun h0=>tz_ctz x h0 hx)
   have e0:x = 0→Lib.ctz 32 x = 32:=fun h=>by subst h;rfl
   generalize Lib.ctz 32 x = c at *
   obtain ⟨c1,c2⟩:=hx32
   by_cases hx0:x = 0
   ·have ec:=e0 hx0
    subst hx0;subst ec
    have HN:Hid (val (L.take (k+1)) = 0):=by unfold Hid;rw [uH HS1,hv.out];simp
    clear HR1 HS1 hv HTC e0 HP
    go_wp2_with (go_at_call 265;refine (uH TZ).mono ?_;rintro e w' ⟨rfl,rfl⟩)
    go_round
    case rel=>exact ⟨k+1,by omega,by go_num,int_eq (by omega),HN⟩
    case measure=>simp [intOf];omega
   ·have hr:=uH HR1 hx0
    have HE:=hide (show z = 32 * (k:Int)+(c:Int) by rw [uH HP hr.1,hr.2,uH HTC hx0];omega)
    have hx1:((x:Int) != 0) = true:=by rw [bne_iff_ne];omega
    clear HR1 HS1 hv HTC e0 HP hr
    go_wp2_with (go_at_call 265;refine (uH TZ).mono ?_;rintro e w' ⟨rfl,rfl⟩)
    go_ret
    exact ⟨ret_int (uH HE).symm,uH HB0⟩
  ·have hz:=uH HZ (by rw [← uH HV k (by omega)];exact hv.out)
   subst hz
   clear HR HZ HP HF HV HS hv hc'
   go_wp2
   go_ret
   exact ⟨rfl,uH HB0⟩
end Go.Proofs.YtcbcmlaogehimaaGreatDoor
namespace Go.Proofs.YtcbcmlaogehimaaGreatDoor
open Go.RowKit
def Box3 (w:World) (b:Nat) (x y z:Value):Prop:=w.heap[b]? = some (.cells #[x,y,z] 35 (0,0))
theorem Box3.c0 {w:World} {b:Nat} {x y z:Value} (h:Box3 w b x y z):w.cell? ⟨b,0,none⟩ = some x:=by rw [cell_of_row w b 0 _ _ _ h];rfl
theorem Box3.c1 {w:World} {b:Nat} {x y z:Value} (h:Box3 w b x y z):w.cell? ⟨b,1,none⟩ = some y:=by rw [cell_of_row w b 1 _ _ _ h];rfl
theorem Box3.c2 {w:World} {b:Nat} {x y z:Value} (h:Box3 w b x y z):w.cell? ⟨b,2,none⟩ = some z:=by rw [cell_of_row w b 2 _ _ _ h];rfl
theorem Box3.free {w:World} {b:Nat} {x y z:Value} (h:Box3 w b x y z) (j:Nat):w.frozen? ⟨b,j,none⟩ = false:=frozen_of_row w b j _ _ h
theorem Box3.lt {w:World} {b:Nat} {x y z:Value} (h:Box3 w b x y z):b < w.heap.size:=(Array.getElem?_eq_some_iff.1 h).1
theorem Box3.below {w w':World} {b:Nat} {x y z:Value} (h:Box3 w b x y z) {B:Nat} (hb:Below B w w') (hlt:b < B):Box3 w' b x y z:=(hb.block b hlt).trans h
theorem Box3.new (w:World) (x y z:Value):Box3 (w.alloc (.cells #[x,y,z] 35)) w.heap.size x y z:=heap_alloc_new w _
theorem Box3.old {w:World} {b:Nat} {x y z:Value} (h:Box3 w b x y z) (o:Obj):Box3 (w.alloc o) b x y z:=by
 unfold Box3;rw [Below.heap_alloc w o b h.lt];exact h
theorem Box3.all {w w':World} {b:Nat} {x y z:Value} (h:Box3 w b x y z) (hb:Below w.heap.size w w'):Box3 w' b x y z:=h.below hb h.lt
theorem Box2.all {w w':World} {b:Nat} {x y:Value} (h:Box2 w b x y) (hb:Below w.heap.size w w'):Box2 w' b x y:=h.below hb h.lt
theorem Box3.drew {w:World} {b:Nat} {x y z:Value} (h:Box3 w b x y z):Box3 w.drew b x y z:=h
theorem Box3.other {w:World} {b:Nat} {x y z:Value} (h:Box3 w b x y z) {p:Addr} (hp:b ≠ p.block) (u:Value):Box3 (w.setCell p u) b x y z:=(Below.heap_setCell w p u b hp).trans h
theorem below_put3 {w w':World} {B b:Nat} (h:Below B w w') (hb:B≤b) (u u' u'':Value):Below B w (((w'.setCell ⟨b,0,none⟩ u).setCell ⟨b,1,none⟩ u').setCell ⟨b,2,none⟩ u'') :=
 ((h.setCell hb _).setCell hb _).setCell hb _
theorem LimbsAt.box3 {w:World} {ao:Option Addr} {cap g:Nat} {L:List Nat} (h:LimbsAt w ao cap L) {x:Bool} {a:Option Addr} {n c:Nat} {e:Int} (hx:Box3 w g (.bool x) (.slice a n c) (.int .i64 e)) (u u' u'':Value) :
  LimbsAt (((w.setCell ⟨g,0,none⟩ u).setCell ⟨g,1,none⟩ u').setCell ⟨g,2,none⟩ u'') ao cap L:=by
 refine ⟨h.1,h.2.1,?_⟩
 rcases h.2.2 with h0 | ⟨b,off,h1,h2,h3⟩
 ·exact .inl h0
 ·by_cases he:L = []
  ·exact .inl he
  ·have hp:0 < L.length:=List.length_pos_iff.2 he
   have hne:b ≠ g:=by
    rintro rfl
    have h4:=h3 0 hp
    rw [cell_of_row w b (off+0) _ _ _ hx] at h4
    rcases (show off = 0 ∨ off = 1 ∨ off = 2 ∨ 3≤off by omega) with e | e | e | e
    ·subst e;simp at h4
    ·subst e;simp at h4
    ·subst e;simp at h4
    ·rw [Array.getElem?_eq_none (by simp;omega)] at h4;simp at h4
   refine .inr ⟨b,off,h1,by simpa [World.setCell] using h2,fun i hi=>?_⟩
   rw [cell_setCell_other _ _ _ _ (by simpa using hne),cell_setCell_other _ _ _ _ (by simpa using hne),cell_setCell_other _ _ _ _ (by simpa using hne)]
   exact h3 i hi
def drB (neg:Bool) (L:List Nat) (e:Int):Bool:=rightB neg L && (if L.length = 0 then decide (e = 0) else (decide (val L % 2 = 1) && decide (-16384≤e∧e≤16384)))
def drE (neg:Bool) (L:List Nat) (e:Int):Int:=if drB neg L e then 0 else 1
theorem lowZ_odd (v:Nat) (h:v ≠ 0):0 < lowZ v ↔ v % 2 = 0:=by
 rw [lowZ_pos v h]
 obtain ⟨m,hm⟩:=tz_spec v (by omega)
 constructor
 ·intro h1
  obtain ⟨k,hk⟩:∃ k,tz v = k+1:=⟨tz v - 1,by omega⟩
  rw [hk,Nat.pow_succ,Nat.mul_assoc,Nat.mul_left_comm] at hm
  omega
 ·intro h1
  rcases Nat.eq_zero_or_pos (tz v) with e | e
  ·rw [e] at hm;simp at hm;omega
  ·omega
theorem lowZ_le (v:Nat) (h:v < TOP):0≤lowZ v∧lowZ v < 16384:=by
 by_cases h0:v = 0
 ·subst h0;decide
 ·rw [lowZ_pos v h0]
  have e:TOP = 2 ^ (32 * TOPN):=by
   unfold TOP
   rw [show (4294967296:Nat) = 2 ^ 32 by decide,← Nat.pow_mul]
  rw [e] at h
  have:=tz_lt v (32 * TOPN) (by omega) h
  have e2:32 * TOPN = 16384:=rfl
  omega
theorem dcheck_any (neg:Bool) (ao:Option Addr) (cap:Nat) (L:List Nat) (e:Int) (w:World) (h:LimbsAt w ao cap L) (hl:L.length≤35184372088830) (hT:Tab w) :
  Calls Tryz.prog 260 #[.agg #[.bool neg,.slice ao L.length cap,.int .i64 e]] w fun r w'=>r = .returned (.int .i64 (drE neg L e))∧Below w.heap.size w w':=by
 have HC:=hide (fun w' h'=>check_any neg ao cap L w' h' hl)
 have H1:=hide (show rightB neg L = false→drE neg L e = 1 from fun h=>by simp [drE,drB,h])
 have H2:=hide (show ¬ (-16384≤e∧e≤16384)→drE neg L e = 1 from fun h=>by
  unfold drE drB
  by_cases h0:L.length = 0
  ·rw [if_pos h0,decide_eq_false (show ¬ e = 0 by omega)];simp
  ·rw [if_neg h0,decide_eq_false h];simp)
 have H3:=hide (show L.length = 0→e ≠ 0→drE neg L e = 1 from fun h0 h=>by
  unfold drE drB
  rw [if_pos h0,decide_eq_false h];simp)
 have H4:=hide (show rightB neg L = true→L.length = 0→e = 0→drE neg L e = 0∧lowZ (val L) = 0 from fun h h0 h'=>by
  unfold drE drB
  rw [if_pos h0,decide_eq_true h',h]
  have:L = []:=List.length_eq_zero_iff.1 h0
  subst this
  exact ⟨by simp,rfl⟩)
 have H5:=hide (show rightB neg L = true→L.length ≠ 0→(-16384≤e∧e≤16384)→drE neg L e = if 0 < lowZ (val L) then 1 else 0 from fun h h0 h'=>by
  have hv:val L ≠ 0:=fun e=>h0 (by rw [(val_zero_of_canon L (right_canon h).2.1).1 e];rfl)
  unfold drE drB
  rw [if_neg h0,decide_eq_true h',h]
  have:=lowZ_odd _ hv
  by_cases h1:val L % 2 = 1
  ·rw [decide_eq_true h1,if_neg (show ¬ 0 < lowZ (val L) by omega)];simp
  ·rw [decide_eq_false h1,if_pos (show 0 < lowZ (val L) by omega)];simp)
 have HL:=hide (show rightB neg L = true→L.length≤512 from fun h=>(right_canon h).1)
 have HE:=hide (show chkE neg L = if rightB neg L then 0 else 1 from rfl)
 have HZ:=hide (fun w' h' h'' t=>lowZeros_any neg ao cap L w' h' h'' t)
 generalize drE neg L e = er at *
 generalize chkE neg L = ce at *
 generalize lowZ (val L) = lz at *
 generalize rightB neg L = rb at *
 have hb0:Below w.heap.size w (w.alloc (.cells #[.bool neg,.slice ao L.length cap,.int .i64 e] 35)):=(Below.refl _ _).alloc (Nat.le_refl _) _
 have x0:=Box3.new w (.bool neg) (.slice ao L.length cap) (.int .i64 e)
 go_enter Tryz.func260,Tryz.ntmps260
 go_wp2_with fail
 refine (uH HC _ (h.below hb0)).mono ?_
 rintro r w1 ⟨rfl,hb1⟩
 replace x0:=x0.all hb1
 have b1:=hb0.trans (hb1.mono hb0.size)
 rw [uH HE]
 clear hb1 HE HC hb0
 have p0:=x0.c0;have p1:=x0.c1;have p2:=x0.c2
 cases rb
 ·have hr:=uH H1 rfl
  subst hr
  simp only [Bool.false_eq_true,if_false]
  clear H1 H2 H3 H4 H5 HL HZ x0
  go_wp2
  go_ret
  exact ⟨rfl,b1⟩
 have HL':=uH HL rfl
 have H4':=hide (uH H4 rfl)
 have H5':=hide (uH H5 rfl)
 clear HL H4 H5 H1
 simp only [if_true]
 go_wp2_with fail
 refine (within_any e 16384 _ (by decide) (by decide)).mono ?_
 rintro r w2 ⟨rfl,rfl⟩
 by_cases hin:-16384≤e∧e≤16384
 case neg =>
  have hr:=uH H2 hin
  subst hr
  rw [decide_eq_false hin]
  clear H2 H3 H4' H5' HL' HZ x0 hin
  go_wp2
  go_ret
  exact ⟨rfl,b1⟩
 rw [decide_eq_true hin]
 go_wp2_with fail
 refine (isZero_any neg ao cap L.length _).mono ?_
 rintro r w3 ⟨rfl,hb1⟩
 replace x0:=x0.all hb1
 replace b1:=b1.trans (hb1.mono b1.size)
 clear hb1 p0 p1 p2
 have p0:=x0.c0;have p1:=x0.c1;have p2:=x0.c2
 by_cases h0:L.length = 0
 ·rw [decide_eq_true h0]
  by_cases he:e = 0
  ·obtain ⟨hr,hz⟩:=uH H4' h0 he
   subst hr
   subst hz
   subst he
   clear H2 H3 H4' H5' x0 hin h0
   go_wp2_with fail
   refine (uH HZ _ (h.below b1) (by omega) (hT.all b1)).mono ?_
   rintro r w4 ⟨rfl,hb1⟩
   go_wp2
   go_ret
   exact ⟨rfl,b1.trans (hb1.mono b1.size)⟩
  ·have hr:=uH H3 h0 he
   subst hr
   have he1:(e != 0) = true:=by simpa using he
   clear H2 H3 H4' H5' x0 hin HZ
   go_wp2
   go_ret
   exact ⟨rfl,b1⟩
 ·have hr:=uH H5' h0 hin
  rw [decide_eq_false h0]
  by_cases hz:0 < lz
  ·rw [if_pos hz] at hr
   subst hr
   clear H2 H3 H4' H5' x0 hin h0
   go_wp2_with fail
   refine (uH HZ _ (h.below b1) (by omega) (hT.all b1)).mono ?_
   rintro r w4 ⟨rfl,hb1⟩
   go_wp2
   go_ret
   exact ⟨rfl,b1.trans (hb1.mono b1.size)⟩
  ·rw [if_neg hz] at hr
   subst hr
   clear H2 H3 H4' H5' x0 hin h0
   go_wp2_with fail
   refine (uH HZ _ (h.below b1) (by omega) (hT.all b1)).mono ?_
   rintro r w4 ⟨rfl,hb1⟩
   go_wp2
   go_ret
   exact ⟨rfl,b1.trans (hb1.mono b1.size)⟩
end Go.Proofs.YtcbcmlaogehimaaGreatDoor
namespace Go.Proofs.YtcbcmlaogehimaaGreatDoor
open Go.RowKit
def IsDy (w:World) (v:Value) (m e:Int):Prop :=
 ∃ (neg:Bool) (ao:Option Addr) (cap:Nat) (L:List Nat),v = .agg #[.bool neg,.slice ao L.length cap,.int .i64 e]∧IsNum 0 w (.agg #[.bool neg,.slice ao L.length cap]) m
theorem IsDy.below {w w':World} {v:Value} {m e:Int} (h:IsDy w v m e) (hb:Below w.heap.size w w'):IsDy w' v m e:=by
 obtain ⟨neg,ao,cap,L,h1,h2⟩:=h
 exact ⟨neg,ao,cap,L,h1,h2.below hb⟩
theorem IsDy.put3 {w:World} {v:Value} {m e:Int} (h:IsDy w v m e) {g:Nat} {x:Bool} {a:Option Addr} {n c:Nat} {k:Int} (hx:Box3 w g (.bool x) (.slice a n c) (.int .i64 k)) (u u' u'':Value):IsDy (((w.setCell ⟨g,0,none⟩ u).setCell ⟨g,1,none⟩ u').setCell ⟨g,2,none⟩ u'') v m e:=by
 obtain ⟨neg,ao,cap,L,h1,n',a',c',L',e1,e2,e3⟩:=h
 exact ⟨neg,ao,cap,L,h1,n',a',c',L',e1,e2.box3 hx _ _ _,e3⟩
theorem IsDy.zero (w:World) (ao:Option Addr) (cap:Nat):IsDy w (.agg #[.bool false,.slice ao 0 cap,.int .i64 0]) 0 0 :=
 ⟨false,ao,cap,[],rfl,IsNum.zero _ _ _ _⟩
def dOk (z e:Int):Bool:=decide (-32768≤e∧e≤32768) && (decide (z = 0) || decide (-16384≤e+tz z.natAbs∧e+tz z.natAbs≤16384))
def dErr (z e:Int):Int:=if dOk z e then 0 else 2
def dM (z e:Int):Int:=if dOk z e then oM z else 0
def dX (z e:Int):Int:=if dOk z e then oE z e else 0
def drE2 (na:Bool) (A:List Nat) (x:Int) (nb:Bool) (B:List Nat) (y:Int):Int:=if drB na A x && drB nb B y then 0 else 1
theorem dcheckBoth_any (na nb:Bool) (ao bo:Option Addr) (ca cb:Nat) (A B:List Nat) (x y:Int) (w:World) (hA:LimbsAt w ao ca A) (hB:LimbsAt w bo cb B) (la:A.length≤35184372088830) (lb:B.length≤35184372088830) (hT:Tab w) :
  Calls Tryz.prog 288 #[.agg #[.bool na,.slice ao A.length ca,.int .i64 x],.agg #[.bool nb,.slice bo B.length cb,.int .i64 y]] w fun r w'=>r = .returned (.int .i64 (drE2 na A x nb B y))∧Below w.heap.size w w':=by
 have H1:=hide (show drB na A x = false→drE na A x = 1∧drE2 na A x nb B y = 1 from fun h=>by simp [drE,drE2,h])
 have H2:=hide (show drB na A x = true→drE na A x = 0∧drE2 na A x nb B y = drE nb B y from fun h=>by simp [drE,drE2,h])
 have HA:=hide (fun w' h' t=>dcheck_any na ao ca A x w' h' la t)
 have HB:=hide (fun w' h' t=>dcheck_any nb bo cb B y w' h' lb t)
 generalize drE2 na A x nb B y = er at *
 generalize drE na A x = e1 at *
 generalize drE nb B y = e2 at *
 generalize drB na A x = ra at *
 have hb0:Below w.heap.size w ((w.alloc (.cells #[.bool na,.slice ao A.length ca,.int .i64 x] 35)).alloc (.cells #[.bool nb,.slice bo B.length cb,.int .i64 y] 35)):=((Below.refl _ _).alloc (Nat.le_refl _) _).alloc (by simp) _
 have x1:Box3 ((w.alloc (.cells #[.bool na,.slice ao A.length ca,.int .i64 x] 35)).alloc (.cells #[.bool nb,.slice bo B.length cb,.int .i64 y] 35)) (w.heap.size+1) (.bool nb) (.slice bo B.length cb) (.int .i64 y):=by
  have:=Box3.new (w.alloc (.cells #[.bool na,.slice ao A.length ca,.int .i64 x] 35)) (.bool nb) (.slice bo B.length cb) (.int .i64 y)
  simpa using this
 have X1:=hide x1;have B0:=hide hb0
 clear x1 hb0
 cases ra
 ·obtain ⟨rfl,rfl⟩:=uH H1 rfl
  clear H1 H2 HB X1
  go_enter Tryz.func288,Tryz.ntmps288
  go_wp2_with fail
  refine (uH HA _ (hA.below (uH B0)) (hT.all (uH B0))).mono ?_
  rintro r w1 ⟨rfl,hb1⟩
  go_wp2
  go_ret
  exact ⟨rfl,(uH B0).trans (hb1.mono (uH B0).size)⟩
 ·obtain ⟨rfl,rfl⟩:=uH H2 rfl
  clear H1 H2
  go_enter Tryz.func288,Tryz.ntmps288
  go_wp2_with fail
  refine (uH HA _ (hA.below (uH B0)) (hT.all (uH B0))).mono ?_
  rintro r w1 ⟨rfl,hb1⟩
  have x1:=(uH X1).all hb1
  have p0:=x1.c0;have p1:=x1.c1;have p2:=x1.c2
  have B1:=hide ((uH B0).trans (hb1.mono (uH B0).size))
  clear hb1 x1 X1 B0 HA
  go_wp2_with fail
  refine (uH HB _ (hB.below (uH B1)) (hT.all (uH B1))).mono ?_
  rintro r w2 ⟨rfl,hb1⟩
  go_wp2
  go_ret
  exact ⟨rfl,(uH B1).trans (hb1.mono (uH B1).size)⟩
theorem sg_down (na:Bool) (v:Nat) (h:v ≠ 0):sg na (v / 2 ^ tz v) = oM (sg na v):=by
 obtain ⟨m,hm⟩:=tz_spec v (by omega)
 have hp:0 < 2 ^ tz v:=Nat.pow_pos (by decide)
 have hd:v / 2 ^ tz v = 2 * m+1:=by
  generalize 2 ^ tz v = P at hm hp
  rw [hm];exact Nat.mul_div_cancel_left _ hp
 have hz:OddOf (sg na v) (sg na (2 * m+1)) (tz v):=by
  constructor
  ·have e:(v:Int) = (2 * (m:Int)+1) * 2 ^ tz v:=by
    rw [Int.mul_comm]
    exact_mod_cast hm
   unfold sg
   cases na
   ·simp only [Bool.false_eq_true,if_false];rw [e];push_cast;rfl
   ·simp only [if_true];rw [e];push_cast;rw [Int.neg_mul]
  ·unfold sg;cases na <;> simp <;> omega
 rw [hd,hz.eq.2.1]
theorem TOP_pos:0 < TOP:=Nat.pow_pos (by decide)
theorem make_cases (na:Bool) (A:List Nat) (e:Int) (hr:rightB na A = true) (hf:Fits A) :
  (¬ (-32768≤e∧e≤32768)∧dErr (sval na A) e = 2∧dM (sval na A) e = 0∧dX (sval na A) e = 0) ∨
  ((-32768≤e∧e≤32768)∧A.length ≠ 0∧¬ (-16384≤e+lowZ (val A)∧e+lowZ (val A)≤16384)∧dErr (sval na A) e = 2∧dM (sval na A) e = 0∧dX (sval na A) e = 0) ∨
  ((-32768≤e∧e≤32768)∧A.length = 0∧dErr (sval na A) e = 0∧dM (sval na A) e = 0∧dX (sval na A) e = 0) ∨
  ((-32768≤e∧e≤32768)∧A.length ≠ 0∧(-16384≤e+lowZ (val A)∧e+lowZ (val A)≤16384)∧dErr (sval na A) e = 0∧dX (sval na A) e = e+lowZ (val A)∧shE na A (-lowZ (val A)) = 0∧shN na A (-lowZ (val A)) = dM (sval na A) e):=by
 obtain ⟨hl,hc,_⟩:=right_canon hr
 have hT:val A < TOP:=(val_lt_TOP A hf hc).2 hl
 have hlz:=lowZ_le (val A) hT
 by_cases h1:-32768≤e∧e≤32768
 case neg =>
  left
  have:dOk (sval na A) e = false:=by unfold dOk;rw [decide_eq_false h1,Bool.false_and]
  exact ⟨h1,by simp [dErr,this],by simp [dM,this],by simp [dX,this]⟩
 right
 by_cases h0:A.length = 0
 ·right;left
  have e0:A = []:=List.length_eq_zero_iff.1 h0
  subst e0
  have:dOk (sval na []) e = true:=by unfold dOk;rw [decide_eq_true h1,sval_nil];simp
  refine ⟨h1,rfl,by simp [dErr,this],?_,?_⟩
  ·simp [dM,sval_nil,oM]
  ·simp [dX,sval_nil,oE]
 have hv:val A ≠ 0:=fun e=>h0 (by rw [(val_zero_of_canon A hc).1 e];rfl)
 have hlp:=lowZ_pos (val A) hv
 have hz:sval na A ≠ 0:=fun e=>hv (by rw [← natAbs_sval na A,e];rfl)
 by_cases h2:-16384≤e+lowZ (val A)∧e+lowZ (val A)≤16384
 case neg =>
  left
  have:dOk (sval na A) e = false:=by
   unfold dOk
   rw [natAbs_sval,← hlp,decide_eq_false h2,decide_eq_false hz];simp
  exact ⟨h1,h0,h2,by simp [dErr,this],by simp [dM,this],by simp [dX,this]⟩
 right;right
 have hk:dOk (sval na A) e = true:=by
  unfold dOk
  rw [natAbs_sval,← hlp,decide_eq_true h1,decide_eq_true h2];simp
 have hV:shV na A (-lowZ (val A)) = oM (sval na A):=by
  rw [shV_shF,sval_sg,← sg_down na (val A) hv,hlp]
  congr 1
  unfold shF
  rcases Nat.eq_zero_or_pos (tz (val A)) with e | e
  ·rw [e];simp
  ·rw [if_neg (by omega)]
   congr 2
   omega
 have hO:=oddOf (sval na A) hz
 have hle:(oM (sval na A)).natAbs≤val A:=by
  have e1:(sval na A).natAbs = (oM (sval na A)).natAbs * 2 ^ tz (sval na A).natAbs:=by
   conv=>lhs;rw [hO.1]
   rw [Int.natAbs_mul,Int.natAbs_pow]
   rfl
  rw [natAbs_sval] at e1
  rw [e1]
  exact Nat.le_mul_of_pos_right _ (Nat.pow_pos (by decide))
 have hin:-16384≤-lowZ (val A)∧-lowZ (val A)≤16384:=by omega
 have hsk:shOk na A (-lowZ (val A)) = true:=by unfold shOk;rw [hr,decide_eq_true hin];rfl
 refine ⟨h1,h0,h2,by simp [dErr,hk],?_,?_,?_⟩
 ·unfold dX oE;rw [if_pos hk,if_neg hz,natAbs_sval,hlp]
 ·unfold shE;rw [if_pos hsk,hV,errOf_small _ (by omega)]
 ·unfold shN dM;rw [if_pos hsk,if_pos hk,hV,numOf_small _ (by omega)]
theorem make_right (na:Bool) (ao:Option Addr) (ca:Nat) (A:List Nat) (e:Int) (w:World) (hA:LimbsAt w ao ca A) (hr:rightB na A = true) (be:-9223372036854775808≤e∧e≤9223372036854775807) (hT:Tab w) :
  Calls Tryz.prog 206 #[.agg #[.bool na,.slice ao A.length ca],.int .i64 e] w fun r w'=>∃ v,r = .returned (.tuple #[v,.int .i64 (dErr (sval na A) e)])∧IsDy w' v (dM (sval na A) e) (dX (sval na A) e)∧Below w.heap.size w w':=by
 have hl:=(right_canon hr).1
 have hck:chkE na A = 0:=by simp [chkE,hr]
 have HM:=hide (make_cases na A e hr hA.2.1)
 have HCK:=hide (fun w' h'=>check_any na ao ca A w' h' (by omega))
 rw [hck] at HCK
 have HLZ:=hide (fun w' h' t=>lowZeros_any na ao ca A w' h' (by omega) t)
 have HSH:=hide (fun n w' h' bn=>shift_any na ao ca A n w' h' (by omega) bn)
 have hlz:=lowZ_le (val A) ((val_lt_TOP A hA.2.1 (right_canon hr).2.1).2 hl)
 clear hck hr
 generalize dErr (sval na A) e = er at *
 generalize dM (sval na A) e = dm at *
 generalize dX (sval na A) e = dx at *
 generalize lowZ (val A) = lz at *
 obtain ⟨lz0,lz1⟩:=hlz
 have hb0:Below w.heap.size w ((w.alloc (.cells #[.bool na,.slice ao A.length ca] 33)).alloc (.cells #[.bool false,.slice none 0 0,.int .i64 0] 35)):=((Below.refl _ _).alloc (Nat.le_refl _) _).alloc (by simp) _
 have x0:Box2 ((w.alloc (.cells #[.bool na,.slice ao A.length ca] 33)).alloc (.cells #[.bool false,.slice none 0 0,.int .i64 0] 35)) w.heap.size (.bool na) (.slice ao A.length ca):=(Box2.new _ _ _).old _
 have x1:Box3 ((w.alloc (.cells #[.bool na,.slice ao A.length ca] 33)).alloc (.cells #[.bool false,.slice none 0 0,.int .i64 0] 35)) (w.heap.size+1) (.bool false) (.slice none 0 0) (.int .i64 0):=by
  have:=Box3.new (w.alloc (.cells #[.bool na,.slice ao A.length ca] 33)) (.bool false) (.slice none 0 0) (.int .i64 0)
  simpa using this
 go_enter Tryz.func206,Tryz.ntmps206
 go_wp2_with fail
 refine (uH HCK _ (hA.below hb0)).mono ?_
 rintro r w1 ⟨rfl,hb1⟩
 replace x0:=x0.all hb1
 replace x1:=x1.all hb1
 have b1:=hb0.trans (hb1.mono hb0.size)
 clear hb1 hb0 HCK
 have p0:=x0.c0;have p1:=x0.c1
 have X0:=hide x0;have X1:=hide x1;have B1:=hide b1
 clear x0 x1 b1
 go_wp2_with fail
 refine (uH HLZ _ (hA.below (uH B1)) (hT.all (uH B1))).mono ?_
 rintro r w2 ⟨rfl,hb1⟩
 have x0:=(uH X0).all hb1
 have x1:=(uH X1).all hb1
 have b1:=(uH B1).trans (hb1.mono (uH B1).size)
 clear hb1 HLZ p0 p1 X0 X1 B1
 have p0:=x0.c0;have p1:=x0.c1
 have X0:=hide x0;have X1:=hide x1;have B1:=hide b1
 have y0:=x1.c0;have y1:=x1.c1;have y2:=x1.c2;have f0:=x1.free 0;have f1:=x1.free 1;have f2:=x1.free 2
 clear x0 x1 b1
 rcases uH HM with ⟨h1,rfl,rfl,rfl⟩ | ⟨h1,h0,h2,rfl,rfl,rfl⟩ | ⟨h1,h0,rfl,rfl,rfl⟩ | ⟨h1,h0,h2,rfl,rfl,hsE,hsN⟩
 ·clear HM HSH
  go_wp2_with fail
  refine (within_any e 32768 _ (by decide) (by decide)).mono ?_
  rw [decide_eq_false h1]
  rintro r w3 ⟨rfl,rfl⟩
  clear h1
  go_wp2
  refine bodyPost_ret (v:=.tuple #[.agg #[.bool false,.slice none 0 0,.int .i64 0],.int .i64 2]) (by simp [results,Tryz.results206,go_sem,y0,y1,y2]) rfl ⟨_,rfl,IsDy.zero _ _ _,below_put3 (uH B1) (by omega) _ _ _⟩
 ·clear HM HSH
  go_wp2_with fail
  refine (within_any e 32768 _ (by decide) (by decide)).mono ?_
  rw [decide_eq_true h1]
  rintro r w3 ⟨rfl,rfl⟩
  obtain ⟨h1a,h1b⟩:=h1
  go_wp2_with fail
  refine (isZero_any na ao ca A.length _).mono ?_
  rw [decide_eq_false h0]
  rintro r w4 ⟨rfl,hb1⟩
  have x0:=(uH X0).all hb1
  have x1:=(uH X1).all hb1
  have b1:=(uH B1).trans (hb1.mono (uH B1).size)
  clear hb1 p0 p1 X0 X1 B1 y0 y1 y2 f0 f1 f2
  have p0:=x0.c0;have p1:=x0.c1
  have X0:=hide x0;have X1:=hide x1;have B1:=hide b1
  have y0:=x1.c0;have y1:=x1.c1;have y2:=x1.c2;have f0:=x1.free 0;have f1:=x1.free 1;have f2:=x1.free 2
  clear x0 x1 b1
  go_wp2_with fail
  refine (within_any (e+lz) 16384 _ (by decide) (by decide)).mono ?_
  rw [decide_eq_false h2]
  rintro r w5 ⟨rfl,rfl⟩
  clear h2
  go_wp2
  refine bodyPost_ret (v:=.tuple #[.agg #[.bool false,.slice none 0 0,.int .i64 0],.int .i64 2]) (by simp [results,Tryz.results206,go_sem,y0,y1,y2]) rfl ⟨_,rfl,IsDy.zero _ _ _,below_put3 (uH B1) (by omega) _ _ _⟩
 ·clear HM HSH
  have H0:=hide h0
  clear h0
  go_wp2_with fail
  refine (within_any e 32768 _ (by decide) (by decide)).mono ?_
  rw [decide_eq_true h1]
  rintro r w3 ⟨rfl,rfl⟩
  obtain ⟨h1a,h1b⟩:=h1
  go_wp2_with fail
  refine (isZero_any na ao ca A.length _).mono ?_
  rw [decide_eq_true (uH H0)]
  rintro r w4 ⟨rfl,hb1⟩
  have x0:=(uH X0).all hb1
  have x1:=(uH X1).all hb1
  have b1:=(uH B1).trans (hb1.mono (uH B1).size)
  clear hb1 p0 p1 X0 X1 B1 y0 y1 y2 f0 f1 f2
  have p0:=x0.c0;have p1:=x0.c1
  have X0:=hide x0;have X1:=hide x1;have B1:=hide b1
  have y0:=x1.c0;have y1:=x1.c1;have y2:=x1.c2;have f0:=x1.free 0;have f1:=x1.free 1;have f2:=x1.free 2
  clear x0 x1 b1
  clear p1
  have p1:=(uH X0).c1
  go_wp2_with fail
  refine (isZero_any na ao ca A.length _).mono ?_
  rw [decide_eq_true (uH H0)]
  rintro r w5 ⟨rfl,hb1⟩
  have x0:=(uH X0).all hb1
  have x1:=(uH X1).all hb1
  have b1:=(uH B1).trans (hb1.mono (uH B1).size)
  clear hb1 p0 p1 X0 X1 B1 y0 y1 y2 f0 f1 f2
  have B1:=hide b1
  have y0:=x1.c0;have y1:=x1.c1;have y2:=x1.c2;have f0:=x1.free 0;have f1:=x1.free 1;have f2:=x1.free 2
  clear x0 x1 b1
  go_wp2
  refine bodyPost_ret (v:=.tuple #[.agg #[.bool false,.slice none 0 0,.int .i64 0],.int .i64 0]) (by simp [results,Tryz.results206,go_sem,y0,y1,y2]) rfl ⟨_,rfl,IsDy.zero _ _ _,below_put3 (uH B1) (by omega) _ _ _⟩
 ·clear HM
  have HN:=hide hsN
  have SH:=hide (fun w' h'=>uH HSH (-lz) w' h' (by omega))
  rw [hsE] at SH
  clear hsN hsE HSH
  go_wp2_with fail
  refine (within_any e 32768 _ (by decide) (by decide)).mono ?_
  rw [decide_eq_true h1]
  rintro r w3 ⟨rfl,rfl⟩
  obtain ⟨h1a,h1b⟩:=h1
  go_wp2_with fail
  refine (isZero_any na ao ca A.length _).mono ?_
  rw [decide_eq_false h0]
  rintro r w4 ⟨rfl,hb1⟩
  have x0:=(uH X0).all hb1
  have x1:=(uH X1).all hb1
  have b1:=(uH B1).trans (hb1.mono (uH B1).size)
  clear hb1 p0 p1 X0 X1 B1 y0 y1 y2 f0 f1 f2
  have p0:=x0.c0;have p1:=x0.c1
  have X0:=hide x0;have X1:=hide x1;have B1:=hide b1
  have y0:=x1.c0;have y1:=x1.c1;have y2:=x1.c2;have f0:=x1.free 0;have f1:=x1.free 1;have f2:=x1.free 2
  clear x0 x1 b1
  go_wp2_with fail
  refine (within_any (e+lz) 16384 _ (by decide) (by decide)).mono ?_
  rw [decide_eq_true h2]
  rintro r w5 ⟨rfl,rfl⟩
  obtain ⟨h2a,h2b⟩:=h2
  go_wp2_with fail
  refine (isZero_any na ao ca A.length _).mono ?_
  rw [decide_eq_false h0]
  rintro r w6 ⟨rfl,hb1⟩
  have x0:=(uH X0).all hb1
  have x1:=(uH X1).all hb1
  have b1:=(uH B1).trans (hb1.mono (uH B1).size)
  clear hb1 p0 p1 X0 X1 B1 y0 y1 y2 f0 f1 f2
  have p0:=x0.c0;have p1:=x0.c1
  have X0:=hide x0;have X1:=hide x1;have B1:=hide b1
  clear x0 x1 b1
  go_wp2_with fail
  refine (uH SH _ (hA.below (uH B1))).mono ?_
  rintro r w7 ⟨v,rfl,⟨n2,a2,c2,L2,rfl,i1⟩,hb1⟩
  have x1:=(uH X1).all hb1
  have b1:=(uH B1).trans (hb1.mono (uH B1).size)
  have I1:=hide i1;have B2:=hide b1;have X2:=hide x1
  clear hb1 p0 p1 X0 X1 B1 x1 b1 i1
  have x1:=(uH X2).old (.cells #[.bool n2,.slice a2 L2.length c2] 33)
  have y0:=x1.c0;have y1:=x1.c1;have y2:=x1.c2;have f0:=x1.free 0;have f1:=x1.free 1;have f2:=x1.free 2
  have X3:=hide x1
  clear x1
  go_wp2
  have j:IsNum w6.heap.size w7 (.agg #[.bool n2,.slice a2 L2.length c2]) dm:=(uH HN) ▸ (⟨n2,a2,c2,L2,rfl,uH I1⟩:IsNum w6.heap.size w7 (.agg #[.bool n2,.slice a2 L2.length c2]) (shN na A (-lz)))
  have j2:IsDy (w7.alloc (.cells #[.bool n2,.slice a2 L2.length c2] 33)) (.agg #[.bool n2,.slice a2 L2.length c2,.int .i64 (e+lz)]) dm (e+lz):=⟨n2,a2,c2,L2,rfl,(j.below ((Below.refl _ _).alloc (Nat.le_refl _) _)).mono (Nat.zero_le _)⟩
  have b3:=(uH B2).alloc (uH B2).size (.cells #[.bool n2,.slice a2 L2.length c2] 33)
  refine bodyPost_ret (v:=.tuple #[.agg #[.bool n2,.slice a2 L2.length c2,.int .i64 (e+lz)],.int .i64 0]) (by simp [results,Tryz.results206,go_sem,y0,y1,y2]) rfl ⟨_,rfl,j2.put3 (uH X3) _ _ _,below_put3 b3 (by omega) _ _ _⟩
theorem make_num {B:Nat} {w:World} {v:Value} {z:Int} (e:Int) (hv:IsNum B w v z) (hz:z.natAbs < TOP) (be:-9223372036854775808≤e∧e≤9223372036854775807) (hT:Tab w) :
  Calls Tryz.prog 206 #[v,.int .i64 e] w fun r w'=>∃ u,r = .returned (.tuple #[u,.int .i64 (dErr z e)])∧IsDy w' u (dM z e) (dX z e)∧Below w.heap.size w w':=by
 obtain ⟨na,ao,ca,A,rfl,a1,a2,a3,a4⟩:=hv.right hz
 have:=make_right na ao ca A e w a1 a2 be hT
 rwa [a3] at this
end Go.Proofs.YtcbcmlaogehimaaGreatDoor
namespace Go.Proofs.YtcbcmlaogehimaaGreatDoor
open Go.RowKit
theorem wrap_small (x:Int) (h:-9000000000000000000≤x∧x≤9000000000000000000):IntKind.i64.wrap x = x:=by
 simp only [IntKind.wrap,IntKind.signed,IntKind.bits]
 simp
 omega
theorem val_mod2 (L:List Nat):val L % 2 = L[0]?.getD 0 % 2:=by
 cases L with
 | nil=>rfl
 | cons x r=>simp [val];omega
theorem odd_any (neg:Bool) (ao:Option Addr) (cap:Nat) (L:List Nat) (w:World) (h:LimbsAt w ao cap L) :
  Calls Tryz.prog 66 #[.agg #[.bool neg,.slice ao L.length cap]] w fun e w'=>e = .returned (.bool (decide (val L % 2 = 1)))∧Below w.heap.size w w':=by
 by_cases h0:L = []
 ·subst h0
  go_enter Tryz.func66,Tryz.ntmps66
  go_wp2
  go_ret
  exact ⟨rfl,(Below.refl _ _).alloc (Nat.le_refl _) _⟩
 obtain ⟨b,off,rfl,hb,hc⟩:=h.ne (List.length_pos_iff.2 h0)
 have hp:0 < L.length:=List.length_pos_iff.2 h0
 have hpI:(0:Int) < (L.length:Int):=by omega
 have hc1:=hc 0 hp
 have hx:=h.lt 0
 have hcap:=h.1
 rw [val_mod2]
 generalize L[0]?.getD 0 = x at *
 clear hc h h0
 rw [Nat.add_zero] at hc1
 generalize hn:L.length = n at *
 clear hn
 by_cases hx1:x % 2 = 1
 ·have e1:(((x:Int) % 2) == 1) = true:=by rw [beq_iff_eq];omega
  have HD:=hide (decide_eq_true hx1)
  clear hx1
  go_enter Tryz.func66,Tryz.ntmps66
  go_wp2
  go_ret
  exact ⟨ret_bool (uH HD).symm,(Below.refl _ _).alloc (Nat.le_refl _) _⟩
 ·have e1:(((x:Int) % 2) == 1) = false:=by rw [beq_eq_false_iff_ne];omega
  have HD:=hide (decide_eq_false hx1)
  clear hx1
  go_enter Tryz.func66,Tryz.ntmps66
  go_wp2
  go_ret
  exact ⟨ret_bool (uH HD).symm,(Below.refl _ _).alloc (Nat.le_refl _) _⟩
theorem dtop_any (neg:Bool) (ao:Option Addr) (cap:Nat) (L:List Nat) (e:Int) (w:World) (h:LimbsAt w ao cap L) (hl:L.length≤35184372088830) :
  Calls Tryz.prog 169 #[.agg #[.bool neg,.slice ao L.length cap,.int .i64 e]] w fun r w'=>r = .returned (.int .i64 (IntKind.i64.wrap (lenL L+e)))∧Below w.heap.size w w':=by
 have HR:=hide (fun w' h'=>len_any neg ao cap L w' h' hl)
 generalize lenL L = n at *
 have hb0:Below w.heap.size w (w.alloc (.cells #[.bool neg,.slice ao L.length cap,.int .i64 e] 35)):=(Below.refl _ _).alloc (Nat.le_refl _) _
 have x0:=Box3.new w (.bool neg) (.slice ao L.length cap) (.int .i64 e)
 have X0:=hide x0;have B0:=hide hb0
 clear x0 hb0
 go_enter Tryz.func169,Tryz.ntmps169
 go_wp2
 refine at_world (fun W=>Below w.heap.size w W∧Box3 W w.heap.size (.bool neg) (.slice ao L.length cap) (.int .i64 e)) ⟨uH B0,uH X0⟩ ?_
 rintro W0 ⟨b0,x0⟩
 have hK:∀ w',Below W0.heap.size W0 w'→Below W0.heap.size W0 w'∧w'.cell? ⟨w.heap.size,0,none⟩ = some (.bool neg)∧w'.cell? ⟨w.heap.size,1,none⟩ = some (.slice ao L.length cap)∧w'.cell? ⟨w.heap.size,2,none⟩ = some (.int .i64 e):=fun w' h =>
  ⟨h,(x0.all h).c0,(x0.all h).c1,(x0.all h).c2⟩
 have HK:=hide hK
 have HA:=hide (h.below b0);have BB:=hide b0
 clear hK x0 b0 h X0 B0
 go_region_held3 (fun w'=>Below W0.heap.size W0 w'∧w'.cell? ⟨w.heap.size,0,none⟩ = some (.bool neg)∧w'.cell? ⟨w.heap.size,1,none⟩ = some (.slice ao L.length cap)∧w'.cell? ⟨w.heap.size,2,none⟩ = some (.int .i64 e))
  (first | exact uH HK _ (Below.refl _ _).drew | exact uH HK _ (by assumption))
  (first | (go_at_call 208;refine (uH HR _ ((uH HA).below (And.left (by assumption)))).mono ?_;rintro e w1 ⟨rfl,hb1⟩;have hB1:Below W0.heap.size W0 w1:=Below.trans (And.left (by assumption)) (hb1.mono (Below.size (And.left (by assumption))));clear hb1))
 go_wp2
 go_ret
 exact ⟨rfl,(uH BB).trans (Below.mono (And.left (by assumption)) (uH BB).size)⟩
def topR (L:List Nat) (e:Int):Int:=if L.length = 0 then 0 else lenL L+e
theorem rtop_any (neg:Bool) (ao:Option Addr) (cap:Nat) (L:List Nat) (e:Int) (w:World) (h:LimbsAt w ao cap L) (hl:L.length≤1073741824) (he:-100000≤e∧e≤100000) :
  Calls Tryz.prog 69 #[.agg #[.bool neg,.slice ao L.length cap,.int .i64 e]] w fun r w'=>r = .returned (.int .i64 (topR L e))∧Below w.heap.size w w':=by
 have HR:=hide (fun w' h'=>refLen_any neg ao cap L w' h' (by omega))
 have hn:L.length ≠ 0→0≤lenL L∧lenL L≤40000000000:=fun h0=>by
  unfold lenL
  rw [if_neg h0]
  have:=bitLen_le (L[L.length - 1]?.getD 0)
  omega
 have HT:=hide (show (L.length = 0→topR L e = 0)∧(L.length ≠ 0→topR L e = lenL L+e) by unfold topR;constructor <;> intro h <;> simp [h])
 generalize topR L e = t at *
 generalize lenL L = n at *
 have hb0:Below w.heap.size w (w.alloc (.cells #[.bool neg,.slice ao L.length cap,.int .i64 e] 35)):=(Below.refl _ _).alloc (Nat.le_refl _) _
 have x0:=Box3.new w (.bool neg) (.slice ao L.length cap) (.int .i64 e)
 have X0:=hide x0;have B0:=hide hb0
 clear x0 hb0
 by_cases h0:L.length = 0
 ·have ht:=(uH HT).1 h0
  subst ht
  have h0':((L.length:Int) == 0) = true:=by rw [beq_iff_eq];omega
  clear HT hn HR h0
  go_enter Tryz.func69,Tryz.ntmps69
  go_wp2
  go_ret
  exact ⟨rfl,uH B0⟩
 have ht:=(uH HT).2 h0
 subst ht
 obtain ⟨hn0,hn1⟩:=hn h0
 have h0':((L.length:Int) == 0) = false:=by rw [beq_eq_false_iff_ne];omega
 clear HT hn h0
 go_enter Tryz.func69,Tryz.ntmps69
 go_wp2
 refine at_world (fun W=>Below w.heap.size w W∧Box3 W w.heap.size (.bool neg) (.slice ao L.length cap) (.int .i64 e)) ⟨uH B0,uH X0⟩ ?_
 rintro W0 ⟨b0,x0⟩
 have hK:∀ w',Below W0.heap.size W0 w'→Below W0.heap.size W0 w'∧w'.cell? ⟨w.heap.size,0,none⟩ = some (.bool neg)∧w'.cell? ⟨w.heap.size,1,none⟩ = some (.slice ao L.length cap)∧w'.cell? ⟨w.heap.size,2,none⟩ = some (.int .i64 e):=fun w' h =>
  ⟨h,(x0.all h).c0,(x0.all h).c1,(x0.all h).c2⟩
 have HK:=hide hK
 have HA:=hide (h.below b0);have BB:=hide b0
 clear hK x0 b0 h X0 B0
 go_region_held3 (fun w'=>Below W0.heap.size W0 w'∧w'.cell? ⟨w.heap.size,0,none⟩ = some (.bool neg)∧w'.cell? ⟨w.heap.size,1,none⟩ = some (.slice ao L.length cap)∧w'.cell? ⟨w.heap.size,2,none⟩ = some (.int .i64 e))
  (first | exact uH HK _ (Below.refl _ _).drew | exact uH HK _ (by assumption))
  (first | (go_at_call 127;refine (uH HR _ ((uH HA).below (And.left (by assumption)))).mono ?_;rintro e w1 ⟨rfl,hb1⟩;have hB1:Below W0.heap.size W0 w1:=Below.trans (And.left (by assumption)) (hb1.mono (Below.size (And.left (by assumption))));clear hb1))
 go_wp2
 go_ret
 exact ⟨ret_int (wrap_small _ (by omega)),(uH BB).trans (Below.mono (And.left (by assumption)) (uH BB).size)⟩
def rsgn (neg:Bool) (n:Nat):Int:=if neg then -1 else if n = 0 then 0 else 1
theorem rsign_any (neg:Bool) (ao:Option Addr) (cap:Nat) (n:Nat) (e:Int) (w:World) :
  Calls Tryz.prog 68 #[.agg #[.bool neg,.slice ao n cap,.int .i64 e]] w fun r w'=>r = .returned (.int .i64 (rsgn neg n))∧Below w.heap.size w w':=by
 have HS:=hide (show rsgn neg n = if neg then -1 else if n = 0 then 0 else 1 from rfl)
 generalize rsgn neg n = s at *
 have hb0:Below w.heap.size w (w.alloc (.cells #[.bool neg,.slice ao n cap,.int .i64 e] 35)):=(Below.refl _ _).alloc (Nat.le_refl _) _
 have B0:=hide hb0
 clear hb0
 cases neg
 ·rcases (show n = 0 ∨ n = 1 ∨ 2≤n by omega) with rfl | rfl | h
  ·have hs:s = 0:=by rw [uH HS];rfl
   subst hs
   clear HS
   go_enter Tryz.func68,Tryz.ntmps68
   go_wp2
   go_ret
   exact ⟨rfl,uH B0⟩
  ·have hs:s = 1:=by rw [uH HS];rfl
   subst hs
   clear HS
   go_enter Tryz.func68,Tryz.ntmps68
   go_wp2
   go_ret
   exact ⟨rfl,uH B0⟩
  ·have hs:s = 1:=by rw [uH HS,if_neg (by decide),if_neg (by omega)]
   subst hs
   have h':(1:Int) < (n:Int):=by omega
   clear HS
   go_enter Tryz.func68,Tryz.ntmps68
   go_wp2
   go_ret
   exact ⟨rfl,uH B0⟩
 ·have hs:s = -1:=by rw [uH HS];rfl
  subst hs
  clear HS
  go_enter Tryz.func68,Tryz.ntmps68
  go_wp2
  go_ret
  exact ⟨rfl,uH B0⟩
end Go.Proofs.YtcbcmlaogehimaaGreatDoor
namespace Go.Proofs.YtcbcmlaogehimaaGreatDoor
open Go.RowKit
attribute [local go_sem ↓] Go.wp_at_zero Go.wp_at_succ
theorem wrap_add (x k:Int):IntKind.i64.wrap (IntKind.i64.wrap x+k) = IntKind.i64.wrap (x+k):=by
 simp only [IntKind.wrap,IntKind.signed,IntKind.bits]
 simp
 split <;> split <;> split <;> omega
theorem wrap64_is (x:Int):wrap64 x = IntKind.i64.wrap x:=by
 simp only [IntKind.wrap,IntKind.signed,IntKind.bits,wrap64]
 simp
 split <;> omega
theorem wrap_in (x:Int) (h:-9223372036854775808≤x∧x≤9223372036854775807):IntKind.i64.wrap x = x:=by
 simp only [IntKind.wrap,IntKind.signed,IntKind.bits]
 simp
 omega
theorem wrap_back64 (x e:Int) (j:Nat) (hj:j < 18446744073709551616) (h:x = IntKind.i64.wrap (e+j)):((x - e) % 18446744073709551616).toNat = j:=by
 subst h
 simp only [IntKind.wrap,IntKind.signed,IntKind.bits]
 simp
 split <;> omega
theorem sg_abs (x:Int):sg (decide (x < 0)) x.natAbs = x:=by
 unfold sg
 by_cases h:x < 0
 ·rw [decide_eq_true h];simp;omega
 ·rw [decide_eq_false h];simp;omega
def OfI (w wr:World) (z:Int) (j:Nat) (nn:Bool) (a:Option Addr) (c:Nat) (L:List Nat):Prop :=
 Box2 wr w.heap.size (.bool nn) (.slice a L.length c)∧Box3 wr (w.heap.size+1) (.bool false) (.slice none 0 0) (.int .i64 0)∧LimbsAt wr a c L∧Canon L∧L ≠ []∧L.length≤30000∧sg nn (val L) * 2 ^ j = z∧Below w.heap.size w wr
theorem OfI.step {w w2:World} {z x:Int} {nn n0 n':Bool} {a0 a':Option Addr} {l0 c0 c' v M B j:Nat} {L':List Nat}
  (hb:Box2 w2 w.heap.size (.bool n0) (.slice a0 l0 c0)) (hr:Box3 w2 (w.heap.size+1) (.bool false) (.slice none 0 0) (.int .i64 0))
  (i:LimbsAt w2 a' c' L'∧NewAt B a' L'∧Canon L'∧n' = decide (x < 0)∧val L' = x.natAbs∧L'.length≤M) (hx:x = sg nn v) (hv:v ≠ 0) (hz:sg nn v * 2 ^ j = z) (hl:M≤30000) (hbel:Below w.heap.size w w2) :
  OfI w ((w2.setCell ⟨w.heap.size,0,none⟩ (.bool n')).setCell ⟨w.heap.size,1,none⟩ (.slice a' L'.length c')) z j n' a' c' L':=by
 obtain ⟨i1,i2,i3,i4,i5,i6⟩:=i
 have hs:sg n' (val L') = x:=by rw [i4,i5,sg_abs]
 refine ⟨hb.put _ _,(hr.other (by simp) _).other (by simp) _,i1.box hb _ _,i3,?_,by omega,?_,(hbel.setCell (by simp) _).setCell (by simp) _⟩
 ·rintro rfl
  simp [val] at i5
  have:x.natAbs = v:=by rw [hx,natAbs_sg]
  omega
 ·rw [hs,hx];exact hz
theorem OfI.tzs {w wr:World} {z:Int} {j:Nat} {nn:Bool} {a:Option Addr} {c:Nat} {L:List Nat} (h:OfI w wr z j nn a c L):val L ≠ 0∧tz z.natAbs = j+tz (val L):=by
 obtain ⟨h1,h2,h3,h4,h5,h6,h7,h8⟩:=h
 have hv:val L ≠ 0:=fun e=>h5 ((val_zero_of_canon L h4).1 e)
 refine ⟨hv,?_⟩
 rw [← tz_mul (val L) j (by omega),← h7,Int.natAbs_mul,natAbs_sg,Int.natAbs_pow,Nat.mul_comm]
 rfl
theorem OfI.last {w wr:World} {z:Int} {j:Nat} {nn:Bool} {a:Option Addr} {c:Nat} {L:List Nat} (h:OfI w wr z j nn a c L) (ho:val L % 2 = 1):IsNum 0 wr (.agg #[.bool nn,.slice a L.length c]) (oM z)∧j = tz z.natAbs:=by
 obtain ⟨h1,h2,h3,h4,h5,h6,h7,h8⟩:=h
 have hO:OddOf z (sg nn (val L)) j:=⟨h7.symm,by unfold sg;cases nn <;> simp <;> omega⟩
 obtain ⟨e1,e2,e3⟩:=hO.eq
 rw [← e2,← sval_sg]
 exact ⟨IsNum.mk h3 (NewAt.zero h3) h4 h5 (by omega),e3⟩
theorem val_mod32 (L:List Nat) (hf:Fits L):val L % 4294967296 = L[0]?.getD 0:=by
 cases L with
 | nil=>rfl
 | cons x r =>
  have:=hf x (by simp)
  simp [val]
  omega
theorem OfI.down {w wr:World} {z:Int} {j:Nat} {nn:Bool} {a:Option Addr} {c:Nat} {L:List Nat} (h:OfI w wr z j nn a c L) (k:Nat) (hk:val L % 2 ^ k = 0):val L / 2 ^ k ≠ 0∧sg nn (val L / 2 ^ k) * 2 ^ (j+k) = z∧j+k≤tz z.natAbs:=by
 obtain ⟨hv,ht⟩:=h.tzs
 obtain ⟨h1,h2,h3,h4,h5,h6,h7,h8⟩:=h
 have hd:val L = 2 ^ k * (val L / 2 ^ k):=by have:=Nat.div_add_mod (val L) (2 ^ k);omega
 have hq:val L / 2 ^ k ≠ 0:=fun e=>hv (by rw [hd,e];simp)
 refine ⟨hq,?_,?_⟩
 ·rw [← h7]
  conv=>rhs;rw [hd]
  generalize val L / 2 ^ k = q
  have e:sg nn (2 ^ k * q) = sg nn q * 2 ^ k:=by
   unfold sg
   cases nn
   ·simp only [Bool.false_eq_true,if_false];push_cast;rw [Int.mul_comm]
   ·simp only [if_true];push_cast;rw [Int.neg_mul,Int.mul_comm]
  rw [e,Nat.add_comm,Int.pow_add,Int.mul_assoc]
 ·rw [ht]
  have e:tz (val L) = k+tz (val L / 2 ^ k):=by
   conv=>lhs;rw [hd]
   exact tz_mul _ _ (Nat.pos_of_ne_zero hq)
  omega
theorem rof_some (na:Bool) (ao:Option Addr) (ca:Nat) (A:List Nat) (e:Int) (w:World) (hA:LimbsAt w ao ca A) (h0:A ≠ []) (hc:Canon A) (la:A.length≤20000) (be:-9223372036854775808≤e∧e≤9223372036854775807) :
  Calls Tryz.prog 27 #[.agg #[.bool na,.slice ao A.length ca],.int .i64 e] w fun r w'=>∃ v,r = .returned v∧IsDy w' v (oM (sval na A)) (IntKind.i64.wrap (e+tz (sval na A).natAbs))∧Below w.heap.size w w':=by
 obtain ⟨i0,hi,hz0,hz1,hz2⟩:=info_parts Tryz.info84
 have HZ:=hide (sval_sg na A).symm
 have hT:tz (sval na A).natAbs < 18446744073709551616:=by
  rw [natAbs_sval]
  have hv:val A ≠ 0:=fun e=>h0 ((val_zero_of_canon A hc).1 e)
  have h1:=val_lt A hA.2.1
  rw [show (4294967296:Nat) = 2 ^ 32 by decide,← Nat.pow_mul] at h1
  have:=tz_lt (val A) _ (by omega) h1
  omega
 generalize sval na A = z at *
 obtain ⟨T,hTe⟩:∃ T,T = tz z.natAbs:=⟨_,rfl⟩
 have HTE:=hide hTe
 rw [← hTe] at hT ⊢
 have HM:=hide (show oM z = oM z from rfl)
 have HH0:=hide h0;have HC:=hide hc
 clear h0 hc hTe
 have hp:0 < A.length:=List.length_pos_iff.2 (uH HH0)
 have hpI:((A.length:Int) == 0) = false:=by rw [beq_eq_false_iff_ne];omega
 go_enter Tryz.func27,Tryz.ntmps27
 go_wp2
 clear HM
 go_loopw [1] (fun i wr=>∃ (x:Int) (j:Nat) (nn:Bool) (a:Option Addr) (c:Nat) (L:List Nat),i = .int .i64 x∧j≤T∧Hid (x = IntKind.i64.wrap (e+j))∧Hid (OfI w wr z j nn a c L)) (fun i _=>T - ((intOf i - e) % 18446744073709551616).toNat)
 case atStart =>
  refine ⟨e,0,na,ao,ca,A,rfl,Nat.zero_le _,?_,(Box2.new _ _ _).old _,?_,hA.below (((Below.refl _ _).alloc (Nat.le_refl _) _).alloc (by simp) _),uH HC,uH HH0,by omega,by rw [uH HZ];simp,((Below.refl _ _).alloc (Nat.le_refl _) _).alloc (by simp) _⟩
  ·unfold Hid;rw [wrap_in _ (by omega)];omega
  ·have:=Box3.new (w.alloc (.cells #[.bool na,.slice ao A.length ca] 33)) (.bool false) (.slice none 0 0) (.int .i64 0)
   simpa using this
 case round =>
  obtain ⟨x,j,nn,a,c,L,rfl,hj,hx,hI⟩:=hrel
  clear HZ HC HH0 hA la hp hpI
  obtain ⟨x0,x1,hL,hC,hS,hlen,hz,hbel⟩:=uH hI
  have hp:0 < L.length:=List.length_pos_iff.2 hS
  have hpI:(0:Int) < (L.length:Int):=by omega
  have p0:=x0.c0;have p1:=x0.c1
  have hcap:=hL.1
  obtain ⟨b,off,rfl,hb,hcl⟩:=hL.ne hp
  have hc0:=hcl 0 hp
  rw [Nat.add_zero] at hc0
  have hm32:=val_mod32 L hL.2.1
  have hlt:=hL.lt 0
  by_cases hg:L[0]?.getD 0 = 0
  ·rw [hg] at hc0 hm32
   obtain ⟨d1,d2,d3⟩:=(uH hI).down 32 hm32
   rw [← uH HTE] at d3
   have HD1:=hide d1;have HD2:=hide d2
   have BEL:=hide hbel;have X0:=hide x0;have X1:=hide x1;have HLEN:=hide hlen;have HLL:=hide (hL.below ((Below.refl _ _).drew))
   clear hz x0 x1 hL hC hS hbel hI hlen hcl hm32 hg d1 d2 hlt
   go_wp2
   have h1I:(1:Int)≤(L.length:Int):=by omega
   have h2I:(L.length:Int)≤(c:Int):=by omega
   have h3I:(1:Int)≤(c:Int):=by omega
   by_cases hc1:c = 1
   ·subst hc1
    go_region_with (go_at_call 65;refine (made_drop1 nn b off L _ (uH HLL)).mono ?_;rintro e w2 ⟨v,rfl,⟨n2,a2,c2,L2,rfl,i1⟩,hb2⟩;have I1:=hide i1;have Z0:=(uH X0).drew.below hb2 (uH X0).drew.lt;have Z1:=(uH X1).drew.below hb2 (uH X1).drew.lt;have r0:=Z0.c0;have r1:=Z0.c1;have f0:=Z0.free 0;have f1:=Z0.free 1;have B2:=hide (((uH BEL).drew).trans (hb2.mono ((uH BEL).drew).size));have ZZ0:=hide Z0;have ZZ1:=hide Z1;clear i1 hb2 Z0 Z1)
    all_goals
     go_wp2
     go_roundw
     case rel=>exact ⟨_,j+32,n2,a2,c2,L2,rfl,d3,hide (by rw [wrap64_is,uH hx,wrap_add];congr 1;omega),OfI.step (v:=val L / 4294967296) (uH ZZ0) (uH ZZ1) (uH I1) rfl (uH HD1) (uH HD2) (by have:=uH HLEN;omega) (uH B2)⟩
     case measure=>rw [wrap64_is,uH hx,wrap_add];simp only [intOf];rw [wrap_back64 _ e j (by omega) rfl,wrap_back64 _ e (j+32) (by omega) (by congr 1;omega)];omega
   ·have hc1I:¬ (c:Int) = 1:=by omega
    go_region_with (go_at_call 65;refine (made_drop nn b off c L _ (uH HLL) (by have:=uH HLEN;omega)).mono ?_;rintro e w2 ⟨v,rfl,⟨n2,a2,c2,L2,rfl,i1⟩,hb2⟩;have I1:=hide i1;have Z0:=(uH X0).drew.below hb2 (uH X0).drew.lt;have Z1:=(uH X1).drew.below hb2 (uH X1).drew.lt;have r0:=Z0.c0;have r1:=Z0.c1;have f0:=Z0.free 0;have f1:=Z0.free 1;have B2:=hide (((uH BEL).drew).trans (hb2.mono ((uH BEL).drew).size));have ZZ0:=hide Z0;have ZZ1:=hide Z1;clear i1 hb2 Z0 Z1)
    all_goals
     go_wp2
     go_roundw
     case rel=>exact ⟨_,j+32,n2,a2,c2,L2,rfl,d3,hide (by rw [wrap64_is,uH hx,wrap_add];congr 1;omega),OfI.step (v:=val L / 4294967296) (uH ZZ0) (uH ZZ1) (uH I1) rfl (uH HD1) (uH HD2) (by have:=uH HLEN;omega) (uH B2)⟩
     case measure=>rw [wrap64_is,uH hx,wrap_add];simp only [intOf];rw [wrap_back64 _ e j (by omega) rfl,wrap_back64 _ e (j+32) (by omega) (by congr 1;omega)];omega
  ·have hne:(((L[0]?.getD 0:Nat):Int) == 0) = false:=by rw [beq_eq_false_iff_ne];omega
   generalize L[0]?.getD 0 = y at *
   have HI:=hI
   clear hI x0 x1 hL hC hS hlen hz hbel hcl hm32 hg
   go_wp2
   go_loopw [1] (fun i wr=>∃ (x:Int) (j:Nat) (nn:Bool) (a:Option Addr) (c:Nat) (L:List Nat),i = .int .i64 x∧j≤T∧Hid (x = IntKind.i64.wrap (e+j))∧Hid (OfI w wr z j nn a c L)) (fun i _=>T - ((intOf i - e) % 18446744073709551616).toNat)
   case atStart=>exact ⟨x,j,nn,_,c,L,rfl,hj,hx,HI⟩
   case round =>
    clear HI p0 p1 hpI hp hne hc0 hj hx hb hcap
    obtain ⟨x,j,nn,a,c,L,rfl,hj,hx,hI⟩:=hrel
    obtain ⟨x0,x1,hL,hC,hS,hlen,hz,hbel⟩:=uH hI
    have p0:=x0.c0;have p1:=x0.c1
    have X0:=hide x0;have X1:=hide x1;have BEL:=hide hbel;have HLEN:=hide hlen;have HLL:=hide hL
    clear x0 x1 hL hC hS hlen hz hbel
    go_wp2_with fail
    refine (odd_any nn a c L wr (uH HLL)).mono ?_
    by_cases ho:val L % 2 = 1
    ·rw [decide_eq_true ho]
     rintro r w3 ⟨rfl,hb1⟩
     obtain ⟨l1,l2⟩:=(uH hI).last ho
     have L1:=hide (l1.below hb1);have L2:=hide l2
     have x0:=(uH X0).all hb1;have x1:=(uH X1).all hb1
     have b1:=(uH BEL).trans (hb1.mono (uH BEL).size)
     clear hI l1 l2 hb1 ho p0 p1 X0 X1 BEL HLL
     have p0:=x0.c0;have p1:=x0.c1
     have y0:=x1.c0;have y1:=x1.c1;have y2:=x1.c2;have f0:=x1.free 0;have f1:=x1.free 1;have f2:=x1.free 2
     have X1:=hide x1;have B1:=hide b1
     clear x0 x1 b1
     go_wp2
     have e1:IntKind.i64.wrap (e+(T:Int)) = x:=by rw [uH hx,uH HTE,← uH L2]
     rw [e1]
     have j2:IsDy w3 (.agg #[.bool nn,.slice a L.length c,.int .i64 x]) (oM z) x:=⟨nn,a,c,L,rfl,uH L1⟩
     refine bodyPost_ret (v:=.agg #[.bool nn,.slice a L.length c,.int .i64 x]) (by simp [results,Tryz.results27,go_sem,y0,y1,y2]) rfl ⟨_,rfl,j2.put3 (uH X1) _ _ _,below_put3 (uH B1) (by omega) _ _ _⟩
    ·rw [decide_eq_false ho]
     rintro r w3 ⟨rfl,hb1⟩
     obtain ⟨d1,d2,d3⟩:=(uH hI).down 1 (by simp;omega)
     rw [← uH HTE] at d3
     rw [Nat.pow_one] at d1 d2
     have HD1:=hide d1;have HD2:=hide d2
     have x0:=(uH X0).all hb1;have x1:=(uH X1).all hb1
     have b1:=(uH BEL).trans (hb1.mono (uH BEL).size)
     have hll:=(uH HLL).below hb1
     clear hI d1 d2 hb1 ho p0 p1 X0 X1 BEL HLL
     have p0:=x0.c0;have p1:=x0.c1
     have X0:=hide x0;have X1:=hide x1;have B1:=hide b1;have HLL:=hide hll
     clear x0 x1 b1 hll
     go_wp2_with fail
     refine (half_any nn a c L w3 (uH HLL) (by have:=uH HLEN;omega)).mono ?_
     rintro r w2 ⟨v,rfl,⟨n2,a2,c2,L2,rfl,i1⟩,hb2⟩
     have I1:=hide i1
     have Z0:=(uH X0).all hb2
     have Z1:=(uH X1).all hb2
     have r0:=Z0.c0;have r1:=Z0.c1;have f0:=Z0.free 0;have f1:=Z0.free 1
     have B2:=hide ((uH B1).trans (hb2.mono (uH B1).size))
     have ZZ0:=hide Z0;have ZZ1:=hide Z1
     clear i1 hb2 Z0 Z1
     go_wp2
     go_roundw
     case rel=>exact ⟨_,j+1,n2,a2,c2,L2,rfl,d3,hide (by rw [wrap64_is,uH hx,wrap_add];congr 1;omega),OfI.step (v:=val L / 2) (uH ZZ0) (uH ZZ1) (uH I1) rfl (uH HD1) (uH HD2) (by have:=uH HLEN;omega) (uH B2)⟩
     case measure=>rw [wrap64_is,uH hx,wrap_add];simp only [intOf];rw [wrap_back64 _ e j (by omega) rfl,wrap_back64 _ e (j+1) (by omega) (by congr 1;omega)];omega
theorem rof_none (na:Bool) (ao:Option Addr) (ca:Nat) (e:Int) (w:World) :
  Calls Tryz.prog 27 #[.agg #[.bool na,.slice ao 0 ca],.int .i64 e] w fun r w'=>∃ v,r = .returned v∧IsDy w' v 0 0∧Below w.heap.size w w':=by
 go_enter Tryz.func27,Tryz.ntmps27
 go_wp2
 refine bodyPost_ret (v:=.agg #[.bool false,.slice none 0 0,.int .i64 0]) (by simp [results,Tryz.results27,go_sem]) rfl ⟨_,rfl,IsDy.zero _ _ _,?_⟩
 exact ((Below.refl w.heap.size w).alloc (Nat.le_refl _) _).alloc (by simp) _
theorem rof_num {M B:Nat} {w:World} {v:Value} {z:Int} (e:Int) (hv:IsNumM M B w v z) (hM:M≤20000) (be:-9223372036854775808≤e∧e≤9223372036854775807) :
  Calls Tryz.prog 27 #[v,.int .i64 e] w fun r w'=>∃ u,r = .returned u∧IsDy w' u (oM z) (if z = 0 then 0 else IntKind.i64.wrap (e+tz z.natAbs))∧Below w.heap.size w w':=by
 obtain ⟨na,ao,ca,A,rfl,a1,a2,a3,a4,a5,a6⟩:=hv
 have hs:=sval_IsNum a4 a5
 by_cases h0:A = []
 ·subst h0
  rw [sval_nil] at hs
  subst hs
  rw [if_pos rfl,show oM 0 = 0 by simp [oM]]
  exact rof_none na ao ca e w
 ·have hz:z ≠ 0:=fun e0=>h0 ((val_zero_of_canon A a3).1 (by rw [a5,e0];rfl))
  rw [if_neg hz,← hs]
  exact rof_some na ao ca A e w a1 h0 a3 (by omega) be
theorem rof_small {M B:Nat} {w:World} {v:Value} {z:Int} (e:Int) (hv:IsNumM M B w v z) (hM:M≤20000) (be:-1000000≤e∧e≤1000000) :
  Calls Tryz.prog 27 #[v,.int .i64 e] w fun r w'=>∃ u,r = .returned u∧IsDy w' u (oM z) (oE z e)∧Below w.heap.size w w':=by
 have h1:=rof_num e hv hM (by omega)
 have:(if z = 0 then 0 else IntKind.i64.wrap (e+tz z.natAbs)) = oE z e:=by
  unfold oE
  split
  ·rfl
  ·rename_i hz
   have ht:tz z.natAbs < 32 * 20000:=by
    obtain ⟨na,ao,ca,A,rfl,a1,a2,a3,a4,a5,a6⟩:=hv
    rw [← a5]
    have hv:val A ≠ 0:=by rw [a5];omega
    have h1:=val_lt A a1.2.1
    rw [show (4294967296:Nat) = 2 ^ 32 by decide,← Nat.pow_mul] at h1
    have:=tz_lt (val A) _ (by omega) h1
    omega
   exact wrap_small _ (by omega)
 rwa [this] at h1
end Go.Proofs.YtcbcmlaogehimaaGreatDoor
namespace Go.Proofs.YtcbcmlaogehimaaGreatDoor
open Go.RowKit
attribute [local go_sem ↓] Go.wp_at_zero Go.wp_at_succ
def dRt (n y:Int):Bool:=if n = 0 then decide (y = 0) else (decide (n % 2 = 1) && decide (-16384≤y∧y≤16384))
theorem IsDy.parts {w:World} {v:Value} {m e:Int} (h:IsDy w v m e) :
  ∃ (neg:Bool) (ao:Option Addr) (cap:Nat) (L:List Nat),v = .agg #[.bool neg,.slice ao L.length cap,.int .i64 e]∧LimbsAt w ao cap L∧Canon L∧neg = decide (m < 0)∧val L = m.natAbs∧L.length≤35184372088832:=by
 obtain ⟨neg,ao,cap,L,rfl,m1,m2,m3,L1,q1,q2,q3,q4,q5,q6,q7⟩:=h
 simp only [Value.agg.injEq,Array.mk.injEq,List.cons.injEq,Value.bool.injEq,Value.slice.injEq,and_true] at q1
 obtain ⟨rfl,rfl,o3,rfl⟩:=q1
 exact ⟨neg,ao,cap,L1,by rw [o3],q2,q4,q5,q6,q7⟩
theorem mod2_natAbs (n:Int):(n.natAbs % 2 = 1) ↔ (n % 2 = 1):=by omega
theorem IsDy.right {w:World} {v:Value} {m e:Int} (h:IsDy w v m e) (hm:m.natAbs < TOP) :
  ∃ (neg:Bool) (ao:Option Addr) (cap:Nat) (L:List Nat),v = .agg #[.bool neg,.slice ao L.length cap,.int .i64 e]∧LimbsAt w ao cap L∧rightB neg L = true∧sval neg L = m∧L.length≤512∧drB neg L e = dRt m e:=by
 obtain ⟨neg,ao,cap,L,rfl,h1,h2,h3,h4,h5⟩:=h.parts
 have hN:IsNum 0 w (.agg #[.bool neg,.slice ao L.length cap]) m:=⟨neg,ao,cap,L,rfl,h1,NewAt.zero h1,h2,h3,h4,h5⟩
 have hl:L.length≤512:=(val_lt_TOP L h1.2.1 h2).1 (by omega)
 have hr:rightB neg L = true:=by
  obtain ⟨neg',ao',cap',L',e1,e2,e3,e4,e5⟩:=hN.right hm
  simp only [Value.agg.injEq,Array.mk.injEq,List.cons.injEq,Value.bool.injEq,Value.slice.injEq,and_true] at e1
  obtain ⟨rfl,rfl,o3,rfl⟩:=e1
  have:L = L':=by
   refine eq_of_canon L L' h1.2.1 e2.2.1 h2 (right_canon e3).2.1 ?_
   rw [h4,← e4,natAbs_sval]
  rw [this];exact e3
 refine ⟨neg,ao,cap,L,rfl,h1,hr,sval_IsNum h3 h4,hl,?_⟩
 unfold drB dRt
 rw [hr,Bool.true_and,h4]
 by_cases h0:L.length = 0
 ·have:m = 0:=by
   have:L = []:=List.length_eq_zero_iff.1 h0
   rw [this] at h4;simp [val] at h4;omega
  rw [if_pos h0,if_pos this]
 ·have:m ≠ 0:=fun e0=>h0 (by
   have:L = []:=(val_zero_of_canon L h2).1 (by rw [h4,e0];rfl)
   rw [this];rfl)
  rw [if_neg h0,if_neg this]
  congr 1
  rw [decide_eq_decide]
  exact mod2_natAbs m
theorem IsDy.num {w:World} {v:Value} {m e:Int} (h:IsDy w v m e) :
  ∃ (neg:Bool) (ao:Option Addr) (cap:Nat) (L:List Nat),v = .agg #[.bool neg,.slice ao L.length cap,.int .i64 e]∧IsNum 0 w (.agg #[.bool neg,.slice ao L.length cap]) m:=h
end Go.Proofs.YtcbcmlaogehimaaGreatDoor
