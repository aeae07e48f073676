/- Part 12 of the texts. -/
import Derived.Test.YtenpggicmfhhdaaGreatDoorParte11
set_option maxHeartbeats 4000000
namespace Go.Proofs.YtenpggicmfhhdaaGreatDoor
open Go.RowKit
attribute [local go_sem ↓] Go.wp_at_zero Go.wp_at_succ
def pq(n y:Int):Bool:=if n=0 then decide (y=0)else(decide (n%2=1)&&decide (-16384≤y∧y≤16384))
theorem aH.parts{w:World}{v:Value}{m e:Int}(h:aH w v m e):
  ∃(neg:Bool) (f:Option Addr) (d:Nat) (L:List Nat),v=.agg #[.bool neg,.slice f L.length d,.int .i64 e]∧af w f d L∧bM L∧neg=decide (m<0)∧ah L=m.natAbs∧L.length≤35184372088832:=by
 obtain⟨neg,f,d,L,rfl,H,I,K,t,l,y,M,z,A,D,F⟩:=h
 simp only[Value.agg.injEq,Array.mk.injEq,List.cons.injEq,Value.bool.injEq,Value.slice.injEq,and_true]at l
 obtain⟨rfl,rfl,G,rfl⟩:=l
 exact⟨neg,f,d,t,by rw[G],y,z,A,D,F⟩
theorem qC(n:Int):(n.natAbs%2=1)↔(n%2=1):=by omega
theorem aH.right{w:World}{v:Value}{m e:Int}(h:aH w v m e)(M:m.natAbs<di):
  ∃(neg:Bool) (l:Option Addr) (d:Nat) (L:List Nat),v=.agg #[.bool neg,.slice l L.length d,.int .i64 e]∧af w l d L∧aw neg L=true∧ad neg L=m∧L.length≤512∧jF neg L e=pq m e:=by
 obtain⟨neg,l,d,L,rfl,t,z,D,f,T⟩:=h.parts
 have O:ay 0 w (.agg #[.bool neg,.slice l L.length d]) m:=⟨neg,l,d,L,rfl,t,bI.zero t,z,D,f,T⟩
 have Q:L.length≤512:=(dw L t.2.1 z).1 (by omega)
 have A:aw neg L=true:=by
  obtain⟨F,U,G,H,I,V,K,X,Y⟩:=O.right M
  simp only[Value.agg.injEq,Array.mk.injEq,List.cons.injEq,Value.bool.injEq,Value.slice.injEq,and_true]at I
  obtain⟨rfl,rfl,Z,rfl⟩:=I
  have:L=H:=by
   refine qh L H t.2.1 V.2.1 z (aA K).2.1 ?_
   rw[f,←X,aS]
  rw[this];exact K
 refine⟨neg,l,d,L,rfl,t,A,jt D f,Q,?_⟩
 unfold jF pq
 rw[A,Bool.true_and,f]
 by_cases y:L.length=0
 ·have:m=0:=by
   have:L= []:=List.length_eq_zero_iff.1 y
   rw[this]at f;simp[ah]at f;omega
  rw[if_pos y,if_pos this]
 ·have:m≠0:=fun N=>y (by
   have:L= []:=(aM L z).1 (by rw[f,N];rfl)
   rw[this];rfl)
  rw[if_neg y,if_neg this]
  congr 1
  rw[decide_eq_decide]
  exact qC m
theorem aH.num{w:World}{v:Value}{m e:Int}(h:aH w v m e):
  ∃(neg:Bool) (f:Option Addr) (d:Nat) (L:List Nat),v=.agg #[.bool neg,.slice f L.length d,.int .i64 e]∧ay 0 w (.agg #[.bool neg,.slice f L.length d]) m:=h
end Go.Proofs.YtenpggicmfhhdaaGreatDoor
namespace Go.Proofs.YtenpggicmfhhdaaGreatDoor
open Go.RowKit
theorem uy(z:Int):(oM z).natAbs≤z.natAbs:=by
 by_cases h:z=0
 ·subst h;simp[oM]
 ·have d:=fg z h
  have f:z.natAbs=(oM z).natAbs*2^tz z.natAbs:=by
   conv=>lhs;rw[d.1]
   rw[Int.natAbs_mul,Int.natAbs_pow]
   rfl
  rw[f]
  exact Nat.le_mul_of_pos_right _ (Nat.pow_pos (by decide))
theorem cg:oM 0=0:=by simp[oM]
theorem cJ(e:Int):oE 0 e=0:=by simp[oE]
theorem ge(z:Int)(h:z≠0):oM z≠0∧oM z%2=1:=by
 have d:=(fg z h).2
 exact⟨fun e=>by rw[e]at d;simp at d,d⟩
theorem dq(z e:Int)(h:z≠0):oE z e=e+tz z.natAbs:=by unfold oE;rw[if_neg h]
theorem Ek(z e:Int)(d:-32768≤e∧e≤32768):pq (oM z) (oE z e)=kt z e:=by
 unfold kt pq
 rw[decide_eq_true d,Bool.true_and]
 by_cases h:z=0
 ·subst h
  rw[cg,cJ];simp
 ·obtain⟨f,l⟩:=ge z h
  rw[if_neg f,decide_eq_true l,dq z e h,decide_eq_false h]
  simp
theorem vy(z e:Int)(d:-32768≤e∧e≤32768):
  (pq (oM z) (oE z e)=true→cI z e=0∧dM z e=oM z∧dX z e=oE z e)∧(pq (oM z) (oE z e)=false→cI z e=2∧dM z e=0∧dX z e=0):=by
 rw[Ek z e d]
 constructor<;>intro h<;>simp[cI,dM,dX,h]
attribute [local go_sem ↓] Go.wp_at_zero Go.wp_at_succ
def up(s x l:Int):Int:=s*2^(x-l).toNat
theorem qD(d:Bool)(A:List Nat)(n:Int)(h:0≤n):nK d A n=ad d A*2^n.toNat:=by
 rw[ls,de]
 unfold lW
 rw[if_pos h]
 unfold sg
 cases d
 ·simp
 ·simp[Int.neg_mul]
def d9(s x l:Int):Int:=if(up s x l).natAbs<di∧x-l≤16384 then 0 else 2
def DW(s x l:Int):Int:=if(up s x l).natAbs<di∧x-l≤16384 then up s x l else 0
theorem jP(d:Bool)(A:List Nat)(x l:Int)(t:aw d A=true)(h:l≤x):si d A (x-l)=d9 (ad d A) x l∧qz d A (x-l)=DW (ad d A) x l:=by
 unfold si qz ks d9 DW
 rw[t,qD d A (x-l) (by omega)]
 change (if(true&&decide (-16384≤x-l∧x-l≤16384))=true then bD (up (ad d A) x l)else if true=true then 2 else 1)=_∧(if(true&&decide (-16384≤x-l∧x-l≤16384))=true then dj (up (ad d A) x l)else 0)=_
 rw[Bool.true_and]
 by_cases m:x-l≤16384
 ·rw[if_pos (decide_eq_true (show-16384≤x-l∧x-l≤16384 by omega)),if_pos (decide_eq_true (show-16384≤x-l∧x-l≤16384 by omega))]
  unfold bD dj
  by_cases f:(up (ad d A) x l).natAbs<di
  ·rw[if_pos f,if_pos f,if_pos ⟨f,m⟩,if_pos ⟨f,m⟩];exact⟨rfl,rfl⟩
  ·rw[if_neg f,if_neg f,if_neg (fun h=>f h.1),if_neg (fun h=>f h.1)];exact⟨rfl,rfl⟩
 ·have y:decide (-16384≤x-l∧x-l≤16384)=false:=decide_eq_false (by omega)
  rw[y,if_neg (show¬((up (ad d A) x l).natAbs<di∧x-l≤16384)from fun h=>m h.2),if_neg (show¬((up (ad d A) x l).natAbs<di∧x-l≤16384)from fun h=>m h.2)]
  exact⟨by simp,by simp⟩
theorem qE(s x l:Int):(d9 s x l=0∧DW s x l=up s x l)∨d9 s x l=2:=by
 unfold d9 DW
 by_cases h:(up s x l).natAbs<di∧x-l≤16384
 ·rw[if_pos h,if_pos h];exact .inl ⟨rfl,rfl⟩
 ·rw[if_neg h];exact .inr rfl
theorem ay.put2{B:Nat}{w:World}{v:Value}{x:Int}(h:ay B w v x){p q:Addr}(l:p.block<B)(m:q.block<B)(u u':Value):ay B ((w.setCell p u).setCell q u') v x:=by
 obtain⟨n,t,d,L,rfl,y,f,z⟩:=h
 exact⟨n,t,d,L,rfl,(y.store f l u).store f m u',f,z⟩
theorem bP{w d:World}{B b:Nat}(h:Below B w d)(f:B≤b)(u u':Value):Below B w ((d.setCell ⟨b,0,none⟩ u).setCell ⟨b,1,none⟩ u'):=
 (h.setCell f _).setCell f _
theorem El{w:World}{b c:Nat}{l m t y:Value}(z:aC w b l m)(A:aC w c t y)(d:b≠c)(u0 u1 f h:Value):
  aC ((((((w.setCell ⟨c,0,none⟩ f).setCell ⟨c,1,none⟩ h).setCell ⟨b,0,none⟩ u0).setCell ⟨b,1,none⟩ u1).setCell ⟨c,0,none⟩ f).setCell ⟨c,1,none⟩ h) b u0 u1∧
  aC ((((((w.setCell ⟨c,0,none⟩ f).setCell ⟨c,1,none⟩ h).setCell ⟨b,0,none⟩ u0).setCell ⟨b,1,none⟩ u1).setCell ⟨c,0,none⟩ f).setCell ⟨c,1,none⟩ h) c f h:=
 ⟨((((z.other (p:=⟨c,0,none⟩) d f).other (p:=⟨c,1,none⟩) d h).put u0 u1).other (p:=⟨c,0,none⟩) d f).other (p:=⟨c,1,none⟩) d h,
  (((A.put f h).other (p:=⟨b,0,none⟩) (Ne.symm d) u0).other (p:=⟨b,1,none⟩) (Ne.symm d) u1).put f h⟩
theorem Em{w:World}{b c:Nat}{l m t y:Value}(z:aC w b l m)(A:aC w c t y)(d:b≠c)(u0 u1 f h:Value):
  aC ((((((w.setCell ⟨b,0,none⟩ u0).setCell ⟨b,1,none⟩ u1).setCell ⟨b,0,none⟩ u0).setCell ⟨b,1,none⟩ u1).setCell ⟨c,0,none⟩ f).setCell ⟨c,1,none⟩ h) b u0 u1∧
  aC ((((((w.setCell ⟨b,0,none⟩ u0).setCell ⟨b,1,none⟩ u1).setCell ⟨b,0,none⟩ u0).setCell ⟨b,1,none⟩ u1).setCell ⟨c,0,none⟩ f).setCell ⟨c,1,none⟩ h) c f h:=
 ⟨(((z.put u0 u1).put u0 u1).other (p:=⟨c,0,none⟩) d f).other (p:=⟨c,1,none⟩) d h,
  ((((A.other (p:=⟨b,0,none⟩) (Ne.symm d) u0).other (p:=⟨b,1,none⟩) (Ne.symm d) u1).other (p:=⟨b,0,none⟩) (Ne.symm d) u0).other (p:=⟨b,1,none⟩) (Ne.symm d) u1).put f h⟩
def En(w':World)(r:Ending)(ea eb za zb:Int):Prop:=
 ∃(n1:Bool) (a1:Option Addr) (l1 c1:Nat) (n2:Bool) (a2:Option Addr) (l2 c2:Nat) (er:Int),r=.returned (.tuple #[.agg #[.bool n1,.slice a1 l1 c1],.agg #[.bool n2,.slice a2 l2 c2],.int .i64 er])∧(ea=0→eb=0→er=0∧ay 0 w' (.agg #[.bool n1,.slice a1 l1 c1]) za∧ay 0 w' (.agg #[.bool n2,.slice a2 l2 c2]) zb)∧(¬(ea=0∧eb=0)→er=2)
theorem vz(f d:Bool)(M K:Option Addr)(N L:Nat)(A B:List Nat)(x y l:Int)(w:World)(hA:af w M N A)(hB:af w K L B)(ra:aw f A=true)(rb:aw d B=true)(bx:-16384≤x∧x≤16384)(a0:-16384≤y∧y≤16384)(hl:l=min x y):
  Calls Tryz.prog 192 #[.agg #[.bool f,.slice M A.length N,.int .i64 x],.agg #[.bool d,.slice K B.length L,.int .i64 y]] w fun r G=>En G r (d9 (ad f A) x l) (d9 (ad d B) y l) (up (ad f A) x l) (up (ad d B) y l)∧Below w.heap.size w G:=by
 have la:=(aA ra).1
 have lb:=(aA rb).1
 have ae:l≤x:=by omega
 have aj:l≤y:=by omega
 have CA:=aa (fun n G h (e:n=x-l)=>show Calls Tryz.prog 162 #[.agg #[.bool f,.slice M A.length N],.int .i64 n] G fun e O=>∃v,e=.returned (.tuple #[v,.int .i64 (d9 (ad f A) x l)])∧ay G.heap.size O v (DW (ad f A) x l)∧Below G.heap.size G O by
  have:=gE f M N A n G h (by omega) (by omega)
  rwa[e,(jP f A x l ra ae).1,(jP f A x l ra ae).2,←e]at this)
 have CB:=aa (fun n G h (e:n=y-l)=>show Calls Tryz.prog 162 #[.agg #[.bool d,.slice K B.length L],.int .i64 n] G fun e O=>∃v,e=.returned (.tuple #[v,.int .i64 (d9 (ad d B) y l)])∧ay G.heap.size O v (DW (ad d B) y l)∧Below G.heap.size G O by
  have:=gE d K L B n G h (by omega) (by omega)
  rwa[e,(jP d B y l rb aj).1,(jP d B y l rb aj).2,←e]at this)
 have HA:=aa (qE (ad f A) x l)
 have HB:=aa (qE (ad d B) y l)
 have HL:=aa hl
 clear hl ra rb ae aj
 generalize d9 (ad f A) x l=ea at*
 generalize d9 (ad d B) y l=eb at*
 generalize DW (ad f A) x l=ua at*
 generalize DW (ad d B) y l=ub at*
 generalize up (ad f A) x l=za at*
 generalize up (ad d B) y l=zb at*
 obtain⟨a5,a6⟩:=bx
 obtain⟨a7,a9⟩:=a0
 have ax:Below w.heap.size w ((((w.alloc (.cells #[.bool f,.slice M A.length N,.int .i64 x] 110)).alloc (.cells #[.bool d,.slice K B.length L,.int .i64 y] 110)).alloc (.cells #[.bool false,.slice none 0 0] 108)).alloc (.cells #[.bool false,.slice none 0 0] 108)):=
  ((((Below.refl _ _).alloc (Nat.le_refl _) _).alloc (by simp) _).alloc (by simp;omega) _).alloc (by simp;omega) _
 have T:aB ((((w.alloc (.cells #[.bool f,.slice M A.length N,.int .i64 x] 110)).alloc (.cells #[.bool d,.slice K B.length L,.int .i64 y] 110)).alloc (.cells #[.bool false,.slice none 0 0] 108)).alloc (.cells #[.bool false,.slice none 0 0] 108)) (w.heap.size+1) (.bool d) (.slice K B.length L) (.int .i64 y):=by
  have:=((aB.new (w.alloc (.cells #[.bool f,.slice M A.length N,.int .i64 x] 110)) (.bool d) (.slice K B.length L) (.int .i64 y)).old (.cells #[.bool false,.slice none 0 0] 108)).old (.cells #[.bool false,.slice none 0 0] 108)
  simpa using this
 have Q:aC ((((w.alloc (.cells #[.bool f,.slice M A.length N,.int .i64 x] 110)).alloc (.cells #[.bool d,.slice K B.length L,.int .i64 y] 110)).alloc (.cells #[.bool false,.slice none 0 0] 108)).alloc (.cells #[.bool false,.slice none 0 0] 108)) (w.heap.size+1+1) (.bool false) (.slice none 0 0):=by
  have:=(aC.new ((w.alloc (.cells #[.bool f,.slice M A.length N,.int .i64 x] 110)).alloc (.cells #[.bool d,.slice K B.length L,.int .i64 y] 110)) (.bool false) (.slice none 0 0)).old (.cells #[.bool false,.slice none 0 0] 108)
  simpa using this
 have x3:aC ((((w.alloc (.cells #[.bool f,.slice M A.length N,.int .i64 x] 110)).alloc (.cells #[.bool d,.slice K B.length L,.int .i64 y] 110)).alloc (.cells #[.bool false,.slice none 0 0] 108)).alloc (.cells #[.bool false,.slice none 0 0] 108)) (w.heap.size+1+1+1) (.bool false) (.slice none 0 0):=by
  have:=aC.new (((w.alloc (.cells #[.bool f,.slice M A.length N,.int .i64 x] 110)).alloc (.cells #[.bool d,.slice K B.length L,.int .i64 y] 110)).alloc (.cells #[.bool false,.slice none 0 0] 108)) (.bool false) (.slice none 0 0)
  simpa using this
 have B0:=aa ax;have X1:=aa T;have X2:=aa Q;have X3:=aa x3
 clear ax T Q x3
 rcases(show x<y∨x=y∨y<x by omega)with av|av|av
 all_goals
  first|subst av|skip
  go_enter Tryz.func192,Tryz.ntmps192
  go_wp2_with fail
  refine(uH CA _ _ (hA.below (uH B0)) (by have:=uH HL;omega)).mono ?_
  rintro r w1 ⟨v1,rfl,⟨m,t,z,D,rfl,i1⟩,H⟩
  have T:=(uH X1).all H;have Q:=(uH X2).all H;have x3:=(uH X3).all H
  have b1:=(uH B0).trans (H.mono (uH B0).size)
  have hs:w.heap.size+4≤w1.heap.size:=by have:=H.size;simp at this;omega
  have aI:ay (w.heap.size+4) w1 (.agg #[.bool m,.slice t D.length z]) ua:=by
   refine ay.mono ⟨m,t,z,D,rfl,i1⟩ (by simp)
  have p0:=T.c0;have p1:=T.c1;have p2:=T.c2
  have q0:=Q.c0;have q1:=Q.c1;have f0:=Q.free 0;have f1:=Q.free 1
  have a3:=aa T;have am:=aa Q;have F:=aa x3;have B1:=aa b1;have I1:=aa aI
  clear H T Q x3 b1 i1 aI X1 X2 X3 B0
  have s0:=(uH F).c0;have s1:=(uH F).c1;have g0:=(uH F).free 0;have g1:=(uH F).free 1
  rcases uH HA with⟨rfl,hu⟩|rfl
  ·have HU:=aa hu
   clear HA CA hu
   go_wp2_with fail
   have b2:=bP (uH B1) (show w.heap.size≤w.heap.size+1+1 by omega) (.bool m) (.slice t D.length z)
   refine(uH CB _ _ (hB.below b2) (by have:=uH HL;omega)).mono ?_
   rintro r w2 ⟨v2,rfl,⟨X,Y,Z,L2,rfl,i2⟩,I⟩
   have a4:w.heap.size+4≤w2.heap.size:=by have:=I.size;simp at this;omega
   have y2:=((uH am).put (.bool m) (.slice t D.length z)).all I
   have y3:=(((uH F).other (p:=⟨w.heap.size+1+1,0,none⟩) (by simp) (.bool m)).other (p:=⟨w.heap.size+1+1,1,none⟩) (by simp) (.slice t D.length z)).all I
   have b3:=b2.trans (I.mono b2.size)
   have j1:ay (w.heap.size+4) w2 (.agg #[.bool m,.slice t D.length z]) ua:=((uH I1).put2 (p:=⟨w.heap.size+1+1,0,none⟩) (q:=⟨w.heap.size+1+1,1,none⟩) (by simp) (by simp) (.bool m) (.slice t D.length z)).below I
   have j2:ay (w.heap.size+4) w2 (.agg #[.bool X,.slice Y L2.length Z]) ub:=ay.mono ⟨X,Y,Z,L2,rfl,i2⟩ (by simp;omega)
   clear q0 q1 f0 f1 s0 s1 g0 g1 p0 p1 p2 a3 am F I1 B1 I i2 CB
   have q0:=y2.c0;have q1:=y2.c1;have f0:=y2.free 0;have f1:=y2.free 1
   have s0:=y3.c0;have s1:=y3.c1;have g0:=y3.free 0;have g1:=y3.free 1
   have B3:=aa b3;have J1:=aa j1;have J2:=aa j2
   have EE:=aa (fun u0 u1 v0 v1=>El y2 y3 (by omega) u0 u1 v0 v1)
   clear b2 b3 y2 y3 j1 j2
   rcases uH HB with⟨rfl,hv⟩|rfl
   ·have HV:=aa hv
    clear HB hv
    go_wp2
    go_region_with fail
    all_goals
     go_wp2
     obtain⟨U,V⟩:=uH EE (.bool m) (.slice t D.length z) (.bool X) (.slice Y L2.length Z)
     have z0:=U.c0;have z1:=U.c1;have z2:=V.c0;have z3:=V.c1
     refine bodyPost_ret (v:=.tuple #[.agg #[.bool m,.slice t D.length z],.agg #[.bool X,.slice Y L2.length Z],.int .i64 0]) (by simp[results,Tryz.results192,go_sem,z0,z1,z2,z3]) rfl ⟨⟨m,t,D.length,z,X,Y,L2.length,Z,0,rfl,?_,?_⟩,?_⟩
     ·intro _ _
      rw[←uH HU,←uH HV]
      exact⟨rfl,((((((uH J1).put2 (by simp) (by simp) _ _).put2 (by simp) (by simp) _ _).put2 (by simp) (by simp) _ _).below ((Below.refl _ _).drew)).mono (Nat.zero_le _)),((((((uH J2).put2 (by simp) (by simp) _ _).put2 (by simp) (by simp) _ _).put2 (by simp) (by simp) _ _).below ((Below.refl _ _).drew)).mono (Nat.zero_le _))⟩
     ·intro h;exact absurd ⟨rfl,rfl⟩ h
     ·exact(bP (bP (bP (uH B3) (by omega) _ _) (by omega) _ _) (by omega) _ _).drew
   ·clear HB
    go_wp2
    go_region_with fail
    all_goals
     go_wp2
     obtain⟨U,V⟩:=uH EE (.bool m) (.slice t D.length z) (.bool X) (.slice Y L2.length Z)
     have z0:=U.c0;have z1:=U.c1;have z2:=V.c0;have z3:=V.c1
     refine bodyPost_ret (v:=.tuple #[.agg #[.bool m,.slice t D.length z],.agg #[.bool X,.slice Y L2.length Z],.int .i64 2]) (by simp[results,Tryz.results192,go_sem,z0,z1,z2,z3]) rfl ⟨⟨m,t,D.length,z,X,Y,L2.length,Z,2,rfl,?_,fun _=>rfl⟩,?_⟩
     ·intro _ h;exact absurd h (by decide)
     ·exact(bP (bP (bP (uH B3) (by omega) _ _) (by omega) _ _) (by omega) _ _).drew
  ·clear HA HB CA CB
   go_wp2
   go_region_with fail
   all_goals
    go_wp2
    obtain⟨U,V⟩:=Em (uH am) (uH F) (by omega) (.bool m) (.slice t D.length z) (.bool false) (.slice none 0 0)
    have z0:=U.c0;have z1:=U.c1;have z2:=V.c0;have z3:=V.c1
    refine bodyPost_ret (v:=.tuple #[.agg #[.bool m,.slice t D.length z],.agg #[.bool false,.slice none 0 0],.int .i64 2]) (by simp[results,Tryz.results192,go_sem,z0,z1,z2,z3]) rfl ⟨⟨m,t,D.length,z,false,none,0,0,2,rfl,?_,fun _=>rfl⟩,?_⟩
    ·intro h;exact absurd h (by decide)
    ·exact(bP (bP (bP (uH B1) (by omega) _ _) (by omega) _ _) (by omega) _ _).drew
def bL(sa x sb y:Int):Int:=if sa=0 then y else if sb=0 then x else min x y
def dy(sa x sb y:Int):Int:=up sa x (bL sa x sb y)+up sb y (bL sa x sb y)
def jQ(sa x sb y:Int):Bool:=decide (d9 sa x (bL sa x sb y)=0∧d9 sb y (bL sa x sb y)=0∧(dy sa x sb y).natAbs<di)
def qG(sa x sb y:Int):Int:=if jQ sa x sb y then cI (dy sa x sb y) (bL sa x sb y)else 2
def qH(sa x sb y:Int):Int:=if jQ sa x sb y then dM (dy sa x sb y) (bL sa x sb y)else 0
def qI(sa x sb y:Int):Int:=if jQ sa x sb y then dX (dy sa x sb y) (bL sa x sb y)else 0
def k9(w':World)(r:Ending)(er m e:Int):Prop:=∃v,r=.returned (.tuple #[v,.int .i64 er])∧aH w' v m e
theorem aL{n:Bool}{L:List Nat}(h:aw n L=true):ad n L=0↔L.length=0:=by
 have d:=(aA h).2.1
 constructor
 ·intro e
  have:ah L=0:=by rw[←aS n L,e];rfl
  rw[(aM L d).1 this];rfl
 ·intro e
  have:L= []:=List.length_eq_zero_iff.1 e
  rw[this,gA]
theorem ma{w:World}{l:Option Addr}{d:Nat}{n:Bool}{L:List Nat}(h:af w l d L)(f:aw n L=true):(ad n L).natAbs<di:=by
 rw[aS];exact(dw L h.2.1 (aA f).2.1).2 (aA f).1
theorem fk(x l:Int):up 0 x l=0:=by simp[up]
theorem lw(s x:Int):up s x x=s:=by simp[up]
theorem g6(s x l:Int)(d:(up s x l).natAbs<di)(f:x-l≤16384):d9 s x l=0:=by unfold d9;rw[if_pos ⟨d,f⟩]
theorem jR{s x l:Int}(h:d9 s x l=0):(up s x l).natAbs<di:=by
 unfold d9 at h
 by_cases d:(up s x l).natAbs<di∧x-l≤16384
 ·exact d.1
 ·rw[if_neg d]at h;exact absurd h (by decide)
theorem mb(d y:Int)(t:-16384≤y∧y≤16384)(h:d.natAbs<di):qG 0 0 d y=cI d y∧qH 0 0 d y=dM d y∧qI 0 0 d y=dX d y:=by
 have f:bL 0 0 d y=y:=by simp[bL]
 have l:dy 0 0 d y=d:=by unfold dy;rw[f,fk,lw];omega
 have m:jQ 0 0 d y=true:=by
  unfold jQ
  rw[f,l]
  exact decide_eq_true ⟨g6 _ _ _ (by rw[fk];exact lu) (by omega),g6 _ _ _ (by rw[lw];exact h) (by omega),h⟩
 unfold qG qH qI
 rw[m,f,l]
 exact⟨rfl,rfl,rfl⟩
theorem me(d x:Int)(y:-16384≤x∧x≤16384)(h:d.natAbs<di)(m:d≠0):qG d x 0 0=cI d x∧qH d x 0 0=dM d x∧qI d x 0 0=dX d x:=by
 have f:bL d x 0 0=x:=by simp[bL,m]
 have l:dy d x 0 0=d:=by unfold dy;rw[f,fk,lw];omega
 have t:jQ d x 0 0=true:=by
  unfold jQ
  rw[f,l]
  exact decide_eq_true ⟨g6 _ _ _ (by rw[lw];exact h) (by omega),g6 _ _ _ (by rw[fk];exact lu) (by omega),h⟩
 unfold qG qH qI
 rw[t,f,l]
 exact⟨rfl,rfl,rfl⟩
theorem g7(d x f y:Int)(h:d≠0)(l:f≠0):bL d x f y=min x y:=by unfold bL;rw[if_neg h,if_neg l]
theorem ya(d x f y l z:Int)(A:bL d x f y=l)(D:dy d x f y=z):
  (d9 d x l=0∧d9 f y l=0∧z.natAbs<di∧qG d x f y=cI z l∧qH d x f y=dM z l∧qI d x f y=dX z l)∨
  (d9 d x l=0∧d9 f y l=0∧¬z.natAbs<di∧qG d x f y=2∧qH d x f y=0∧qI d x f y=0)∨
  (¬(d9 d x l=0∧d9 f y l=0)∧qG d x f y=2∧qH d x f y=0∧qI d x f y=0):=by
 unfold qG qH qI jQ
 rw[A,D]
 by_cases m:d9 d x l=0∧d9 f y l=0
 ·by_cases t:z.natAbs<di
  ·left
   rw[decide_eq_true (show d9 d x l=0∧d9 f y l=0∧z.natAbs<di from⟨m.1,m.2,t⟩)]
   exact⟨m.1,m.2,t,rfl,rfl,rfl⟩
  ·right;left
   rw[decide_eq_false (show¬(d9 d x l=0∧d9 f y l=0∧z.natAbs<di)from fun h=>t h.2.2)]
   exact⟨m.1,m.2,t,rfl,rfl,rfl⟩
 ·right;right
  rw[decide_eq_false (show¬(d9 d x l=0∧d9 f y l=0∧z.natAbs<di)from fun h=>m ⟨h.1,h.2.1⟩)]
  exact⟨m,rfl,rfl,rfl⟩
theorem pr(F G:Bool)(ao bo:Option Addr)(ca cb:Nat)(A B:List Nat)(x y:Int)(w:World)(hA:af w ao ca A)(hB:af w bo cb B)(ra:aw F A=true)(rb:aw G B=true)(bx:-16384≤x∧x≤16384)(a7:-16384≤y∧y≤16384)(zx:A.length=0→x=0)(zy:B.length=0→y=0)(hT:cd w):
  Calls Tryz.prog 180 #[.agg #[.bool F,.slice ao A.length ca,.int .i64 x],.agg #[.bool G,.slice bo B.length cb,.int .i64 y]] w fun r Q=>k9 Q r (qG (ad F A) x (ad G B) y) (qH (ad F A) x (ad G B) y) (qI (ad F A) x (ad G B) y)∧Below w.heap.size w Q:=by
 have ta:=ma hA ra
 have tb:=ma hB rb
 have a9:=aa (show A.length=0→qG (ad F A) x (ad G B) y=cI (ad G B) y∧qH (ad F A) x (ad G B) y=dM (ad G B) y∧qI (ad F A) x (ad G B) y=dX (ad G B) y from fun h=>by
  have:=(aL ra).2 h
  rw[this,zx h];exact mb _ _ a7 tb)
 have ba:=aa (show A.length≠0→B.length=0→qG (ad F A) x (ad G B) y=cI (ad F A) x∧qH (ad F A) x (ad G B) y=dM (ad F A) x∧qI (ad F A) x (ad G B) y=dX (ad F A) x from fun U h=>by
  have:=(aL rb).2 h
  rw[this,zy h];exact me _ _ bx ta (fun e=>U ((aL ra).1 e)))
 have HL:=aa (show A.length≠0→B.length≠0→bL (ad F A) x (ad G B) y=min x y from fun U h=>g7 _ _ _ _ (fun e=>U ((aL ra).1 e)) (fun e=>h ((aL rb).1 e)))
 obtain⟨l,hl⟩:∃l,bL (ad F A) x (ad G B) y=l:=⟨_,rfl⟩
 obtain⟨z,hz⟩:∃z,dy (ad F A) x (ad G B) y=z:=⟨_,rfl⟩
 have HW:=aa (ya _ _ _ _ l z hl hz)
 have a6:=aa (show z=up (ad F A) x l+up (ad G B) y l by rw[←hz,←hl];rfl)
 rw[hl]at HL
 have bj:=aa (fun Q h t=>gZ G bo cb B y Q h rb (by omega) t)
 have bb:=aa (fun Q h t=>gZ F ao ca A x Q h ra (by omega) t)
 have a5:=aa (fun Q h h' e=>vz F G ao bo ca cb A B x y l Q h h' ra rb bx a7 e)
 have I:=aa (fun Q u v (h1:d9 (ad F A) x l=0) (h2:d9 (ad G B) y l=0) (X:ay 0 Q u (up (ad F A) x l)) (M:ay 0 Q v (up (ad G B) y l))=>Bs X M (jR h1) (jR h2))
 rw[←uH a6]at I
 have Y:=aa (fun(V:z.natAbs<di) e' Q u B' (he:e'=l) (X:ay B' Q u z) (t:cd Q)=>show Calls Tryz.prog 137 #[u,.int .i64 e'] Q fun r bi=>∃v,r=.returned (.tuple #[v,.int .i64 (cI z l)])∧aH bi v (dM z l) (dX z l)∧Below Q.heap.size Q bi by
  subst he
  refine iw _ X V ?_ t
  have:-16384≤e'∧e'≤16384:=by
   rw[←hl];unfold bL
   split
   ·omega
   ·split<;>omega
  omega)
 have Z:=aa (fun h:z.natAbs<di=>And.intro (eO z h) (eP z h))
 have aj:=aa (fun h:¬z.natAbs<di=>(show bD z=2 by unfold bD;rw[if_neg h]))
 clear hl hz ta tb ra rb zx zy a6
 obtain⟨bv,bz⟩:=bx
 obtain⟨bE,b0⟩:=a7
 generalize qG (ad F A) x (ad G B) y=er at*
 generalize qH (ad F A) x (ad G B) y=am at*
 generalize qI (ad F A) x (ad G B) y=ax at*
 generalize d9 (ad F A) x l=ea at*
 generalize d9 (ad G B) y l=eb at*
 generalize up (ad F A) x l=za at*
 generalize up (ad G B) y l=zb at*
 have bm:Below w.heap.size w (((w.alloc (.cells #[.bool F,.slice ao A.length ca,.int .i64 x] 110)).alloc (.cells #[.bool G,.slice bo B.length cb,.int .i64 y] 110)).alloc (.cells #[.bool false,.slice none 0 0,.int .i64 0] 110)):=
  (((Below.refl _ _).alloc (Nat.le_refl _) _).alloc (by simp) _).alloc (by simp;omega) _
 have O:aB (((w.alloc (.cells #[.bool F,.slice ao A.length ca,.int .i64 x] 110)).alloc (.cells #[.bool G,.slice bo B.length cb,.int .i64 y] 110)).alloc (.cells #[.bool false,.slice none 0 0,.int .i64 0] 110)) w.heap.size (.bool F) (.slice ao A.length ca) (.int .i64 x):=((aB.new _ _ _ _).old _).old _
 have K:aB (((w.alloc (.cells #[.bool F,.slice ao A.length ca,.int .i64 x] 110)).alloc (.cells #[.bool G,.slice bo B.length cb,.int .i64 y] 110)).alloc (.cells #[.bool false,.slice none 0 0,.int .i64 0] 110)) (w.heap.size+1) (.bool G) (.slice bo B.length cb) (.int .i64 y):=by
  have:=(aB.new (w.alloc (.cells #[.bool F,.slice ao A.length ca,.int .i64 x] 110)) (.bool G) (.slice bo B.length cb) (.int .i64 y)).old (.cells #[.bool false,.slice none 0 0,.int .i64 0] 110)
  simpa using this
 have f:aB (((w.alloc (.cells #[.bool F,.slice ao A.length ca,.int .i64 x] 110)).alloc (.cells #[.bool G,.slice bo B.length cb,.int .i64 y] 110)).alloc (.cells #[.bool false,.slice none 0 0,.int .i64 0] 110)) (w.heap.size+1+1) (.bool false) (.slice none 0 0) (.int .i64 0):=by
  have:=aB.new ((w.alloc (.cells #[.bool F,.slice ao A.length ca,.int .i64 x] 110)).alloc (.cells #[.bool G,.slice bo B.length cb,.int .i64 y] 110)) (.bool false) (.slice none 0 0) (.int .i64 0)
  simpa using this
 have B0:=aa bm;have X0:=aa O;have X1:=aa K;have X2:=aa f
 clear bm O K f
 go_enter Tryz.func180,Tryz.ntmps180
 go_wp2_with fail
 refine(cU F ao ca A.length _).mono ?_
 by_cases U:A.length=0
 ·rw[decide_eq_true U]
  rintro r w1 ⟨rfl,d⟩
  obtain⟨rfl,rfl,rfl⟩:=uH a9 U
  have K:=(uH X1).all d;have f:=(uH X2).all d
  have T:=(uH B0).trans (d.mono (uH B0).size)
  have q0:=K.c0;have q1:=K.c1;have q2:=K.c2
  have m:=aa f;have D:=aa T
  clear U a9 ba HL HW bb a5 I Y Z aj d K f T X0 X1 X2 B0
  go_wp2_with fail
  refine(uH bj _ (hB.below (uH D)) (hT.all (uH D))).mono ?_
  rintro r w2 ⟨v,rfl,M,d⟩
  obtain⟨n3,a3,c3,L3,rfl,i3⟩:=M.num
  have f:=(uH m).all d
  have b2:=(uH D).trans (d.mono (uH D).size)
  have y0:=f.c0;have y1:=f.c1;have y2:=f.c2;have f0:=f.free 0;have f1:=f.free 1;have f2:=f.free 2
  have X3:=aa f;have B2:=aa b2;have IV:=aa M
  clear f b2 d M i3
  go_wp2
  refine bodyPost_ret (v:=.tuple #[.agg #[.bool n3,.slice a3 L3.length c3,.int .i64 (dX (ad G B) y)],.int .i64 (cI (ad G B) y)]) (by simp[results,Tryz.results180,go_sem,y0,y1,y2]) rfl ⟨⟨_,rfl,(uH IV).put3 (uH X3) _ _ _⟩,aE (uH B2) (by omega) _ _ _⟩
 ·rw[decide_eq_false U]
  rintro r w1 ⟨rfl,d⟩
  have O:=(uH X0).all d;have K:=(uH X1).all d;have f:=(uH X2).all d
  have T:=(uH B0).trans (d.mono (uH B0).size)
  have q0:=K.c0;have q1:=K.c1;have q2:=K.c2
  have L:=aa O;have N:=aa K;have m:=aa f;have D:=aa T
  have av:=aa (uH ba U);have bc:=aa (uH HL U)
  clear U a9 ba HL bj d O K f T X0 X1 X2 B0
  go_wp2_with fail
  refine(cU G bo cb B.length _).mono ?_
  by_cases U:B.length=0
  ·rw[decide_eq_true U]
   rintro r w2 ⟨rfl,d⟩
   obtain⟨rfl,rfl,rfl⟩:=uH av U
   have O:=(uH L).all d;have f:=(uH m).all d
   have T:=(uH D).trans (d.mono (uH D).size)
   clear q0 q1 q2 L N m D
   have q0:=O.c0;have q1:=O.c1;have q2:=O.c2
   have m:=aa f;have D:=aa T
   clear U av bc HW a5 I Y Z aj d O f T
   go_wp2_with fail
   refine(uH bb _ (hA.below (uH D)) (hT.all (uH D))).mono ?_
   rintro r w4 ⟨v,rfl,M,d⟩
   obtain⟨n3,a3,c3,L3,rfl,i3⟩:=M.num
   have f:=(uH m).all d
   have b2:=(uH D).trans (d.mono (uH D).size)
   have y0:=f.c0;have y1:=f.c1;have y2:=f.c2;have f0:=f.free 0;have f1:=f.free 1;have f2:=f.free 2
   have X3:=aa f;have B2:=aa b2;have IV:=aa M
   clear f b2 d M i3
   go_wp2
   refine bodyPost_ret (v:=.tuple #[.agg #[.bool n3,.slice a3 L3.length c3,.int .i64 (dX (ad F A) x)],.int .i64 (cI (ad F A) x)]) (by simp[results,Tryz.results180,go_sem,y0,y1,y2]) rfl ⟨⟨_,rfl,(uH IV).put3 (uH X3) _ _ _⟩,aE (uH B2) (by omega) _ _ _⟩
  ·rw[decide_eq_false U]
   rintro r w2 ⟨rfl,d⟩
   have O:=(uH L).all d;have K:=(uH N).all d;have f:=(uH m).all d
   have T:=(uH D).trans (d.mono (uH D).size)
   have bn:=uH bc U
   clear q0 q1 q2 L N m D
   have p0:=O.c0;have p1:=O.c1;have p2:=O.c2
   have q0:=K.c0;have q1:=K.c1;have q2:=K.c2
   have L:=aa O;have N:=aa K;have m:=aa f;have D:=aa T;have bp:=aa bn
   clear U av bc bb d O K f T bn
   go_wp2_with fail
   refine(uH a5 _ (hA.below (uH D)) (hB.below (uH D)) (uH bp)).mono ?_
   rintro r w3 ⟨⟨n1,a1,l1,c1,n2,a2,l2,c2,ae,rfl,g1,g2⟩,d⟩
   have O:=(uH L).all d;have K:=(uH N).all d;have f:=(uH m).all d
   have T:=(uH D).trans (d.mono (uH D).size)
   have G1:=aa g1;have G2:=aa g2
   clear p0 p1 p2 q0 q1 q2 L N m D a5 d g1 g2
   --the two boxes of what align answered
   have bA:Below w3.heap.size w3 ((w3.alloc (.cells #[.bool n1,.slice a1 l1 c1] 108)).alloc (.cells #[.bool n2,.slice a2 l2 c2] 108)):=((Below.refl _ _).alloc (Nat.le_refl _) _).alloc (by simp) _
   have L:=aa (O.all bA);have N:=aa (K.all bA);have m:=aa (f.all bA);have D:=aa (T.trans (bA.mono T.size));have BA:=aa bA
   clear O K f T bA
   rcases uH HW with⟨e1,e2,V,rfl,rfl,rfl⟩|⟨e1,e2,V,rfl,rfl,rfl⟩|⟨bt,rfl,rfl,rfl⟩
   ·obtain⟨rfl,X,M⟩:=uH G1 e1 e2
    obtain⟨a0,br⟩:=uH Z V
    have H:=aa (fun Q u v X M=>uH I Q u v e1 e2 X M)
    rw[a0,br]at H
    have bq:=aa (uH Y V)
    have IU:=aa (X.below (uH BA));have aI:=aa (M.below (uH BA))
    clear HW I Y Z aj G1 G2 e1 e2 V a0 br X M
    go_wp2_with fail
    refine(uH H _ _ _ (uH IU) (uH aI)).mono ?_
    rintro r w5 ⟨u,rfl,⟨n4,a4,c4,L4,rfl,i4⟩,d⟩
    have O:=((uH L).all d).old (.cells #[.bool n4,.slice a4 L4.length c4] 108)
    have K:=((uH N).all d).old (.cells #[.bool n4,.slice a4 L4.length c4] 108)
    have f:=((uH m).all d).old (.cells #[.bool n4,.slice a4 L4.length c4] 108)
    have T:=((uH D).trans (d.mono (uH D).size)).alloc ((uH D).trans (d.mono (uH D).size)).size (.cells #[.bool n4,.slice a4 L4.length c4] 108)
    have iz:ay 0 (w5.alloc (.cells #[.bool n4,.slice a4 L4.length c4] 108)) (.agg #[.bool n4,.slice a4 L4.length c4]) z:=ay.mono (ay.below ⟨n4,a4,c4,L4,rfl,i4⟩ ((Below.refl _ _).alloc (Nat.le_refl _) _)) (Nat.zero_le _)
    clear L N m D d i4 H IU aI BA
    have p2:=O.c2;have q2:=K.c2
    have m:=aa f;have D:=aa T;have IZ:=aa iz
    clear O K f T iz
    rcases(show x<y∨x=y∨y<x by omega)with be|be|be
    all_goals
     first|subst be|skip
     go_wp2_with fail
     refine(uH bq _ _ _ _ (by have:=uH bp;omega) (uH IZ) (hT.all (uH D))).mono ?_
     rintro r w4 ⟨v,rfl,M,d⟩
     obtain⟨n3,a3,c3,L3,rfl,i3⟩:=M.num
     have f:=(uH m).all d
     have b2:=(uH D).trans (d.mono (uH D).size)
     have y0:=f.c0;have y1:=f.c1;have y2:=f.c2;have f0:=f.free 0;have f1:=f.free 1;have f2:=f.free 2
     have X3:=aa f;have B2:=aa b2;have IV:=aa M
     clear f b2 d M i3
     go_wp2
     refine bodyPost_ret (v:=.tuple #[.agg #[.bool n3,.slice a3 L3.length c3,.int .i64 (dX z l)],.int .i64 (cI z l)]) (by simp[results,Tryz.results180,go_sem,y0,y1,y2]) rfl ⟨⟨_,rfl,(uH IV).put3 (uH X3) _ _ _⟩,aE (uH B2) (by omega) _ _ _⟩
   ·obtain⟨rfl,X,M⟩:=uH G1 e1 e2
    have a0:=uH aj V
    have H:=aa (fun Q u v X M=>uH I Q u v e1 e2 X M)
    rw[a0]at H
    have IU:=aa (X.below (uH BA));have aI:=aa (M.below (uH BA))
    clear HW I Y Z aj G1 G2 e1 e2 V a0 X M
    go_wp2_with fail
    refine(uH H _ _ _ (uH IU) (uH aI)).mono ?_
    rintro r w5 ⟨u,rfl,⟨n4,a4,c4,L4,rfl,i4⟩,d⟩
    have f:=((uH m).all d).old (.cells #[.bool n4,.slice a4 L4.length c4] 108)
    have T:=((uH D).trans (d.mono (uH D).size)).alloc ((uH D).trans (d.mono (uH D).size)).size (.cells #[.bool n4,.slice a4 L4.length c4] 108)
    have y0:=f.c0;have y1:=f.c1;have y2:=f.c2;have f0:=f.free 0;have f1:=f.free 1;have f2:=f.free 2
    have B2:=aa T
    clear L N m D d i4 H IU aI BA f T
    go_wp2
    refine bodyPost_ret (v:=.tuple #[.agg #[.bool false,.slice none 0 0,.int .i64 0],.int .i64 (2)]) (by simp[results,Tryz.results180,go_sem,y0,y1,y2]) rfl ⟨⟨_,rfl,aH.zero _ _ _⟩,aE (uH B2) (by omega) _ _ _⟩
   ·have ha:=uH G2 bt
    subst ha
    have f:=uH m
    have y0:=f.c0;have y1:=f.c1;have y2:=f.c2;have f0:=f.free 0;have f1:=f.free 1;have f2:=f.free 2
    have B2:=D
    clear HW I Y Z aj G1 G2 bt f L N m BA D
    go_wp2
    refine bodyPost_ret (v:=.tuple #[.agg #[.bool false,.slice none 0 0,.int .i64 0],.int .i64 (2)]) (by simp[results,Tryz.results180,go_sem,y0,y1,y2]) rfl ⟨⟨_,rfl,aH.zero _ _ _⟩,aE (uH B2) (by omega) _ _ _⟩
theorem bQ{neg:Bool}{L:List Nat}{e:Int}(h:jF neg L e=true):aw neg L=true∧L.length≤512∧-16384≤e∧e≤16384∧(L.length=0→e=0):=by
 unfold jF at h
 rw[Bool.and_eq_true]at h
 obtain⟨l,d⟩:=h
 refine⟨l,(aA l).1,?_⟩
 by_cases f:L.length=0
 ·rw[if_pos f]at d
  have:=of_decide_eq_true d
  omega
 ·rw[if_neg f,Bool.and_eq_true]at d
  have:=of_decide_eq_true d.2
  omega
end Go.Proofs.YtenpggicmfhhdaaGreatDoor
