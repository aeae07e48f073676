/- Part 17 of the texts. -/
import Derived.Test.YtmpkkhackbpflaaGreatDoorPartg16
set_option maxHeartbeats 2000000
namespace Go.Proofs.YtmpkkhackbpflaaGreatDoor
open Go.RowKit
def fA(b:Nat):Nat:=if fP b=0 then fF b else fF b+4503599627370496
def fM(b:Nat):Int:=sg (fS b) (fA b)
def fE(b:Nat):Int:=if fP b=0 then-1074 else(fP b:Int)-1075
theorem Jg(b:Nat):fA b<9007199254740992:=by unfold fA;have:=ux b;split<;>omega
theorem uL(b:Nat):(fM b).natAbs<9007199254740992:=by
 have:=Jg b
 unfold fM sg
 split<;>omega
theorem Dq(b:Nat):-1074≤fE b∧fE b≤972:=by
 have:=rD b
 unfold fE
 split<;>omega
theorem AL(b:Nat)(w:World):
  Calls Tryz.prog 217 #[fV b] w fun e D=>e=.returned (.tuple #[.int .i64 (fM b),.int .i64 (fE b)])∧Below w.heap.size w D:=by
 unfold fV fM fE fA
 have F:=rD b
 have G:=ux b
 generalize fF b=f at*
 generalize fP b=p at*
 generalize fS b=s at*
 have h:(0:Int)≤f:=by omega
 have l:(f:Int)<4503599627370496:=by omega
 have t:(p:Int)<2048:=by omega
 by_cases d:p=0
 ·subst d
  rw[if_pos rfl,if_pos rfl]
  cases s
  ·go_enter Tryz.func217,Tryz.ntmps217
   go_wp2
   exact bodyPost_ret (v:=.tuple #[.int .i64 f,.int .i64 (-1074)]) (by simp[results,Tryz.results217,go_sem]) rfl ⟨rfl,(Below.refl _ _).alloc (Nat.le_refl _) _⟩
  ·go_enter Tryz.func217,Tryz.ntmps217
   go_wp2
   exact bodyPost_ret (v:=.tuple #[.int .i64 (-f),.int .i64 (-1074)]) (by simp[results,Tryz.results217,go_sem]) rfl ⟨rfl,(Below.refl _ _).alloc (Nat.le_refl _) _⟩
 ·rw[if_neg d,if_neg d]
  have H:0<p:=by omega
  have I:decide (0<p)=true:=decide_eq_true H
  have J:IntKind.i64.wrap (f:Int)=(f:Int):=by simp only[IntKind.wrap_i64];omega
  have L:IntKind.i64.wrap (p:Int)=(p:Int):=by simp only[IntKind.wrap_i64];omega
  obtain⟨a,z⟩:∃a:Nat,a=f+4503599627370496:=⟨_,rfl⟩
  have M:IntKind.i64.wrap ((f:Int)+4503599627370496)=(a:Int):=by simp only[IntKind.wrap_i64];omega
  have N:IntKind.i64.wrap (-(a:Int))= -(a:Int):=by simp only[IntKind.wrap_i64];omega
  have O:IntKind.i64.wrap ((p:Int)-1)=(p:Int)-1:=by simp only[IntKind.wrap_i64];omega
  have Q:IntKind.i64.wrap (-1074+((p:Int)-1))=(p:Int)-1075:=by simp only[IntKind.wrap_i64];omega
  rw[←z]
  clear d G F l t h z
  cases s
  ·go_enter Tryz.func217,Tryz.ntmps217
   go_wp2
   exact bodyPost_ret (v:=.tuple #[.int .i64 a,.int .i64 (p-1075)]) (by simp[results,Tryz.results217,go_sem]) rfl ⟨rfl,(Below.refl _ _).alloc (Nat.le_refl _) _⟩
  ·go_enter Tryz.func217,Tryz.ntmps217
   go_wp2
   exact bodyPost_ret (v:=.tuple #[.int .i64 (-a),.int .i64 (p-1075)]) (by simp[results,Tryz.results217,go_sem]) rfl ⟨rfl,(Below.refl _ _).alloc (Nat.le_refl _) _⟩
attribute [local go_sem ↓] Go.wp_at_zero Go.wp_at_succ
theorem rK(d:Bool)(D:Option Addr)(F:Nat)(A:List Nat)(x l:Int)(w:World)(hA:af w D F A)(J:aE d A=true)(h:A.length≠0→l≤x∧x-l≤16384)(hx:-16384≤x∧x≤16384)(hl:-16384≤l∧l≤16384):
  Calls Tryz.prog 48 #[.agg #[.bool d,.slice D A.length F,.int .i64 x],.int .i64 l] w fun r G=>∃v,r=.returned v∧ar 0 G v (up (aj d A) x l)∧Below w.heap.size w G:=by
 have la:=(aN J).1
 have O:=ac (show A.length=0→up (aj d A) x l=0∧d=false from fun t=>by
  refine⟨by rw[(cT J).2 t,kj],?_⟩
  cases d
  ·rfl
  ·exact absurd (List.length_eq_zero_iff.1 t) ((aN J).2.2 rfl))
 have Q:=ac (fun G N (t:A.length≠0)=>show Calls Tryz.prog 111 #[.agg #[.bool d,.slice D A.length F],.int .i64 (x-l)] G fun e L=>∃v,e=.returned v∧ar 0 L v (up (aj d A) x l)∧Below G.heap.size G L by
  have:=sK d D F A (x-l) G N J (by have:=h t;omega)
  rwa[uD d A (x-l) (by have:=h t;omega)]at this)
 clear h J
 generalize up (aj d A) x l=z at*
 obtain⟨ad,ae⟩:=hx
 obtain⟨ai,am⟩:=hl
 have M:Below w.heap.size w ((w.alloc (.cells #[.bool d,.slice D A.length F,.int .i64 x] 57)).alloc (.cells #[.bool false,.slice none 0 0] 55)):=((Below.refl _ _).alloc (Nat.le_refl _) _).alloc (by simp) _
 have X:a8 ((w.alloc (.cells #[.bool d,.slice D A.length F,.int .i64 x] 57)).alloc (.cells #[.bool false,.slice none 0 0] 55)) w.heap.size (.bool d) (.slice D A.length F) (.int .i64 x):=(a8.new _ _ _ _).old _
 have H:aC ((w.alloc (.cells #[.bool d,.slice D A.length F,.int .i64 x] 57)).alloc (.cells #[.bool false,.slice none 0 0] 55)) (w.heap.size+1) (.bool false) (.slice none 0 0):=by
  have:=aC.new (w.alloc (.cells #[.bool d,.slice D A.length F,.int .i64 x] 57)) (.bool false) (.slice none 0 0)
  simpa using this
 have T:=ac M;have X0:=ac X;have X2:=ac H
 clear M X H
 by_cases t:A.length=0
 ·obtain⟨rfl,rfl⟩:=uH O t
  have U:A= []:=List.length_eq_zero_iff.1 t
  subst U
  clear O Q t
  go_enter Tryz.func48,Tryz.ntmps48
  go_wp2
  refine bodyPost_ret (v:=.agg #[.bool false,.slice D 0 F]) (by simp[results,Tryz.results48,go_sem]) rfl ⟨_,rfl,ar.zero _ _ _ _,?_⟩
  exact((Below.refl w.heap.size w).alloc (Nat.le_refl _) _).alloc (by simp) _
 have aa:((A.length:Int)==0)=false:=by rw[beq_eq_false_iff_ne];omega
 have V:=ac (fun G N=>uH Q G N t)
 clear O Q t
 go_enter Tryz.func48,Tryz.ntmps48
 go_wp2_with fail
 refine(uH V _ (hA.below (uH T))).mono ?_
 rintro r w2 ⟨v,rfl,⟨n3,a3,c3,L3,rfl,i3⟩,I⟩
 have H:=(uH X2).all I
 have Y:=(uH T).trans (I.mono (uH T).size)
 have y0:=H.c0;have y1:=H.c1;have f0:=H.free 0;have f1:=H.free 1
 have X3:=ac H;have B2:=ac Y;have Z:=ac i3
 clear H Y I i3
 go_wp2
 refine bodyPost_ret (v:=.agg #[.bool n3,.slice a3 L3.length c3]) (by simp[results,Tryz.results48,go_sem,y0,y1]) rfl ⟨_,rfl,⟨n3,a3,c3,L3,rfl,(uH Z).1.box (uH X3) _ _,(uH Z).2⟩,cJ (uH B2) (by omega) _ _⟩
theorem Gw{d x h y:Int}(l:jp d x (ir d x h y)=0)(t:jp h y (ir d x h y)=0)(z:(jH d x h y).natAbs<eN):
  uF d x h y=dz (jH d x h y) (ir d x h y)∧uG d x h y=dM (jH d x h y) (ir d x h y)∧uI d x h y=dX (jH d x h y) (ir d x h y):=by
 have D:mo d x h y=true:=decide_eq_true ⟨l,t,z⟩
 unfold uF uG uI
 rw[D]
 exact⟨rfl,rfl,rfl⟩
end Go.Proofs.YtmpkkhackbpflaaGreatDoor
namespace Go.Proofs.YtmpkkhackbpflaaGreatDoor
open Go.RowKit
def sP(z:Int):Int:=if z<0 then-1 else if z=0 then 0 else 1
theorem uM{u:Int}(h:u<0):sP u= -1:=by unfold sP;rw[if_pos h]
theorem uN{u:Int}(h:0<u):sP u=1:=by unfold sP;rw[if_neg (by omega),if_neg (by omega)]
theorem sQ(s:Int)(k:Nat):sP (s*2^k)=sP s:=by
 have d:(0:Int)<2^k:=Int.pow_pos (by decide)
 rcases Int.lt_trichotomy s 0 with h|h|h
 ·rw[uM h,uM (Int.mul_neg_of_neg_of_pos h d)]
 ·subst h;rw[Int.zero_mul]
 ·rw[uN h,uN (Int.mul_pos h d)]
attribute [local go_sem ↓] Go.wp_at_zero Go.wp_at_succ
theorem Gx(z:Int):sP (oM z)=sP z:=by
 by_cases h:z=0
 ·subst h;rw[de]
 ·have:=(gW z h).1
  conv=>rhs;rw[this]
  rw[sQ]
end Go.Proofs.YtmpkkhackbpflaaGreatDoor
