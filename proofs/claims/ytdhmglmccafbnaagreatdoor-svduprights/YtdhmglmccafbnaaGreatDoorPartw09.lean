/- Part 9 of the texts. -/
import Derived.Test.YtdhmglmccafbnaaGreatDoorPartw08
set_option maxHeartbeats 4000000
namespace Go.Proofs.YtdhmglmccafbnaaGreatDoor
open Go.RowKit
theorem vB(z:Int):(oM z).natAbs≤z.natAbs:=by
 by_cases h:z=0
 ·subst h;simp[oM]
 ·have d:=fq z h
  have f:z.natAbs=(oM z).natAbs*2^tz z.natAbs:=by
   conv=>lhs;rw[d.1]
   rw[Int.natAbs_mul,Int.natAbs_pow]
   rfl
  rw[f]
  exact Nat.le_mul_of_pos_right _ (Nat.pow_pos (by decide))
theorem cl:oM 0=0:=by simp[oM]
theorem cL(e:Int):oE 0 e=0:=by simp[oE]
theorem gj(z:Int)(h:z≠0):oM z≠0∧oM z%2=1:=by
 have d:=(fq z h).2
 exact⟨fun e=>by rw[e]at d;simp at d,d⟩
theorem dz(z e:Int)(h:z≠0):oE z e=e+tz z.natAbs:=by unfold oE;rw[if_neg h]
theorem FA(z e:Int)(d:-32768≤e∧e≤32768):qn (oM z) (oE z e)=kU z e:=by
 unfold kU qn
 rw[decide_eq_true d,Bool.true_and]
 by_cases h:z=0
 ·subst h
  rw[cl,cL];simp
 ·obtain⟨f,l⟩:=gj z h
  rw[if_neg f,decide_eq_true l,dz z e h,decide_eq_false h]
  simp
theorem wQ(z e:Int)(d:-32768≤e∧e≤32768):
  (qn (oM z) (oE z e)=true→cK z e=0∧dM z e=oM z∧dX z e=oE z e)∧(qn (oM z) (oE z e)=false→cK z e=2∧dM z e=0∧dX z e=0):=by
 rw[FA z e d]
 constructor<;>intro h<;>simp[cK,dM,dX,h]
attribute [local go_sem ↓] Go.wp_at_zero Go.wp_at_succ
def up(s x l:Int):Int:=s*2^(x-l).toNat
theorem rQ(d:Bool)(A:List Nat)(n:Int)(h:0≤n):oT d A n=ad d A*2^n.toNat:=by
 rw[mz,dn]
 unfold mY
 rw[if_pos h]
 unfold sg
 cases d
 ·simp
 ·simp[Int.neg_mul]
def eu(s x l:Int):Int:=if(up s x l).natAbs<dt∧x-l≤16384 then 0 else 2
def Fc(s x l:Int):Int:=if(up s x l).natAbs<dt∧x-l≤16384 then up s x l else 0
theorem j5(d:Bool)(A:List Nat)(x l:Int)(z:al d A=true)(h:l≤x):tU d A (x-l)=eu (ad d A) x l∧rM d A (x-l)=Fc (ad d A) x l:=by
 unfold tU rM kT eu Fc
 rw[z,rQ d A (x-l) (by omega)]
 change (if(true&&decide (-16384≤x-l∧x-l≤16384))=true then bd (up (ad d A) x l)else if true=true then 2 else 1)=_∧(if(true&&decide (-16384≤x-l∧x-l≤16384))=true then du (up (ad d A) x l)else 0)=_
 rw[Bool.true_and]
 by_cases u:x-l≤16384
 ·rw[if_pos (decide_eq_true (show-16384≤x-l∧x-l≤16384 by omega)),if_pos (decide_eq_true (show-16384≤x-l∧x-l≤16384 by omega))]
  unfold bd du
  by_cases f:(up (ad d A) x l).natAbs<dt
  ·rw[if_pos f,if_pos f,if_pos ⟨f,u⟩,if_pos ⟨f,u⟩];exact⟨rfl,rfl⟩
  ·rw[if_neg f,if_neg f,if_neg (fun h=>f h.1),if_neg (fun h=>f h.1)];exact⟨rfl,rfl⟩
 ·have D:decide (-16384≤x-l∧x-l≤16384)=false:=decide_eq_false (by omega)
  rw[D,if_neg (show¬((up (ad d A) x l).natAbs<dt∧x-l≤16384)from fun h=>u h.2),if_neg (show¬((up (ad d A) x l).natAbs<dt∧x-l≤16384)from fun h=>u h.2)]
  exact⟨by simp,by simp⟩
theorem rR(s x l:Int):(eu s x l=0∧Fc s x l=up s x l)∨eu s x l=2:=by
 unfold eu Fc
 by_cases h:(up s x l).natAbs<dt∧x-l≤16384
 ·rw[if_pos h,if_pos h];exact .inl ⟨rfl,rfl⟩
 ·rw[if_neg h];exact .inr rfl
theorem an.put2{B:Nat}{w:World}{v:Value}{x:Int}(h:an B w v x){p q:Addr}(z:p.block<B)(D:q.block<B)(u l:Value):an B ((w.setCell p u).setCell q l) v x:=by
 obtain⟨n,F,d,L,rfl,G,f,H⟩:=h
 exact⟨n,F,d,L,rfl,(G.store f z u).store f D l,f,H⟩
theorem bN{w w':World}{B b:Nat}(h:Below B w w')(d:B≤b)(u f:Value):Below B w ((w'.setCell ⟨b,0,none⟩ u).setCell ⟨b,1,none⟩ f):=
 (h.setCell d _).setCell d _
theorem FB{w:World}{b c:Nat}{l u z D:Value}(F:az w b l u)(G:az w c z D)(d:b≠c)(u0 u1 f h:Value):
  az ((((((w.setCell ⟨c,0,none⟩ f).setCell ⟨c,1,none⟩ h).setCell ⟨b,0,none⟩ u0).setCell ⟨b,1,none⟩ u1).setCell ⟨c,0,none⟩ f).setCell ⟨c,1,none⟩ h) b u0 u1∧
  az ((((((w.setCell ⟨c,0,none⟩ f).setCell ⟨c,1,none⟩ h).setCell ⟨b,0,none⟩ u0).setCell ⟨b,1,none⟩ u1).setCell ⟨c,0,none⟩ f).setCell ⟨c,1,none⟩ h) c f h:=
 ⟨((((F.other (p:=⟨c,0,none⟩) d f).other (p:=⟨c,1,none⟩) d h).put u0 u1).other (p:=⟨c,0,none⟩) d f).other (p:=⟨c,1,none⟩) d h,
  (((G.put f h).other (p:=⟨b,0,none⟩) (Ne.symm d) u0).other (p:=⟨b,1,none⟩) (Ne.symm d) u1).put f h⟩
theorem FC{w:World}{b c:Nat}{l u z D:Value}(F:az w b l u)(G:az w c z D)(d:b≠c)(u0 u1 f h:Value):
  az ((((((w.setCell ⟨b,0,none⟩ u0).setCell ⟨b,1,none⟩ u1).setCell ⟨b,0,none⟩ u0).setCell ⟨b,1,none⟩ u1).setCell ⟨c,0,none⟩ f).setCell ⟨c,1,none⟩ h) b u0 u1∧
  az ((((((w.setCell ⟨b,0,none⟩ u0).setCell ⟨b,1,none⟩ u1).setCell ⟨b,0,none⟩ u0).setCell ⟨b,1,none⟩ u1).setCell ⟨c,0,none⟩ f).setCell ⟨c,1,none⟩ h) c f h:=
 ⟨(((F.put u0 u1).put u0 u1).other (p:=⟨c,0,none⟩) d f).other (p:=⟨c,1,none⟩) d h,
  ((((G.other (p:=⟨b,0,none⟩) (Ne.symm d) u0).other (p:=⟨b,1,none⟩) (Ne.symm d) u1).other (p:=⟨b,0,none⟩) (Ne.symm d) u0).other (p:=⟨b,1,none⟩) (Ne.symm d) u1).put f h⟩
def FD(w':World)(r:Ending)(ea eb za zb:Int):Prop:=
 ∃(n1:Bool) (a1:Option Addr) (l1 c1:Nat) (n2:Bool) (a2:Option Addr) (l2 c2:Nat) (er:Int),r=.returned (.tuple #[.agg #[.bool n1,.slice a1 l1 c1],.agg #[.bool n2,.slice a2 l2 c2],.int .i64 er])∧(ea=0→eb=0→er=0∧an 0 w' (.agg #[.bool n1,.slice a1 l1 c1]) za∧an 0 w' (.agg #[.bool n2,.slice a2 l2 c2]) zb)∧(¬(ea=0∧eb=0)→er=2)
theorem wR(f d:Bool)(M K:Option Addr)(N L:Nat)(A B:List Nat)(x y l:Int)(w:World)(hA:ag w M N A)(hB:ag w K L B)(ra:al f A=true)(rb:al d B=true)(bx:-16384≤x∧x≤16384)(a3:-16384≤y∧y≤16384)(hl:l=min x y):
  Calls Tryz.prog 310 #[.agg #[.bool f,.slice M A.length N,.int .i64 x],.agg #[.bool d,.slice K B.length L,.int .i64 y]] w fun r w'=>FD w' r (eu (ad f A) x l) (eu (ad d B) y l) (up (ad f A) x l) (up (ad d B) y l)∧Below w.heap.size w w':=by
 have la:=(au ra).1
 have lb:=(au rb).1
 have ae:l≤x:=by omega
 have am:l≤y:=by omega
 have CA:=aa (fun n w' h (e:n=x-l)=>show Calls Tryz.prog 268 #[.agg #[.bool f,.slice M A.length N],.int .i64 n] w' fun e O=>∃v,e=.returned (.tuple #[v,.int .i64 (eu (ad f A) x l)])∧an w'.heap.size O v (Fc (ad f A) x l)∧Below w'.heap.size w' O by
  have:=gL f M N A n w' h (by omega) (by omega)
  rwa[e,(j5 f A x l ra ae).1,(j5 f A x l ra ae).2,←e]at this)
 have CB:=aa (fun n w' h (e:n=y-l)=>show Calls Tryz.prog 268 #[.agg #[.bool d,.slice K B.length L],.int .i64 n] w' fun e O=>∃v,e=.returned (.tuple #[v,.int .i64 (eu (ad d B) y l)])∧an w'.heap.size O v (Fc (ad d B) y l)∧Below w'.heap.size w' O by
  have:=gL d K L B n w' h (by omega) (by omega)
  rwa[e,(j5 d B y l rb am).1,(j5 d B y l rb am).2,←e]at this)
 have HA:=aa (rR (ad f A) x l)
 have HB:=aa (rR (ad d B) y l)
 have HL:=aa hl
 clear hl ra rb ae am
 generalize eu (ad f A) x l=ea at*
 generalize eu (ad d B) y l=eb at*
 generalize Fc (ad f A) x l=ua at*
 generalize Fc (ad d B) y l=ub at*
 generalize up (ad f A) x l=za at*
 generalize up (ad d B) y l=zb at*
 obtain⟨a6,a7⟩:=bx
 obtain⟨a9,ba⟩:=a3
 have aI:Below w.heap.size w ((((w.alloc (.cells #[.bool f,.slice M A.length N,.int .i64 x] 41)).alloc (.cells #[.bool d,.slice K B.length L,.int .i64 y] 41)).alloc (.cells #[.bool false,.slice none 0 0] 39)).alloc (.cells #[.bool false,.slice none 0 0] 39)):=
  ((((Below.refl _ _).alloc (Nat.le_refl _) _).alloc (by simp) _).alloc (by simp;omega) _).alloc (by simp;omega) _
 have U:ay ((((w.alloc (.cells #[.bool f,.slice M A.length N,.int .i64 x] 41)).alloc (.cells #[.bool d,.slice K B.length L,.int .i64 y] 41)).alloc (.cells #[.bool false,.slice none 0 0] 39)).alloc (.cells #[.bool false,.slice none 0 0] 39)) (w.heap.size+1) (.bool d) (.slice K B.length L) (.int .i64 y):=by
  have:=((ay.new (w.alloc (.cells #[.bool f,.slice M A.length N,.int .i64 x] 41)) (.bool d) (.slice K B.length L) (.int .i64 y)).old (.cells #[.bool false,.slice none 0 0] 39)).old (.cells #[.bool false,.slice none 0 0] 39)
  simpa using this
 have Q:az ((((w.alloc (.cells #[.bool f,.slice M A.length N,.int .i64 x] 41)).alloc (.cells #[.bool d,.slice K B.length L,.int .i64 y] 41)).alloc (.cells #[.bool false,.slice none 0 0] 39)).alloc (.cells #[.bool false,.slice none 0 0] 39)) (w.heap.size+1+1) (.bool false) (.slice none 0 0):=by
  have:=(az.new ((w.alloc (.cells #[.bool f,.slice M A.length N,.int .i64 x] 41)).alloc (.cells #[.bool d,.slice K B.length L,.int .i64 y] 41)) (.bool false) (.slice none 0 0)).old (.cells #[.bool false,.slice none 0 0] 39)
  simpa using this
 have x3:az ((((w.alloc (.cells #[.bool f,.slice M A.length N,.int .i64 x] 41)).alloc (.cells #[.bool d,.slice K B.length L,.int .i64 y] 41)).alloc (.cells #[.bool false,.slice none 0 0] 39)).alloc (.cells #[.bool false,.slice none 0 0] 39)) (w.heap.size+1+1+1) (.bool false) (.slice none 0 0):=by
  have:=az.new (((w.alloc (.cells #[.bool f,.slice M A.length N,.int .i64 x] 41)).alloc (.cells #[.bool d,.slice K B.length L,.int .i64 y] 41)).alloc (.cells #[.bool false,.slice none 0 0] 39)) (.bool false) (.slice none 0 0)
  simpa using this
 have B0:=aa aI;have X1:=aa U;have X2:=aa Q;have X3:=aa x3
 clear aI U Q x3
 rcases(show x<y∨x=y∨y<x by omega)with ax|ax|ax
 all_goals
  first|subst ax|skip
  go_enter Tryz.func310,Tryz.ntmps310
  go_wp2_with fail
  refine(uH CA _ _ (hA.below (uH B0)) (by have:=uH HL;omega)).mono ?_
  rintro r w1 ⟨v1,rfl,⟨u,z,D,F,rfl,i1⟩,H⟩
  have U:=(uH X1).all H;have Q:=(uH X2).all H;have x3:=(uH X3).all H
  have b1:=(uH B0).trans (H.mono (uH B0).size)
  have hs:w.heap.size+4≤w1.heap.size:=by have:=H.size;simp at this;omega
  have a0:an (w.heap.size+4) w1 (.agg #[.bool u,.slice z F.length D]) ua:=by
   refine an.mono ⟨u,z,D,F,rfl,i1⟩ (by simp)
  have p0:=U.c0;have p1:=U.c1;have p2:=U.c2
  have q0:=Q.c0;have q1:=Q.c1;have f0:=Q.free 0;have f1:=Q.free 1
  have a4:=aa U;have ap:=aa Q;have G:=aa x3;have B1:=aa b1;have I1:=aa a0
  clear H U Q x3 b1 i1 a0 X1 X2 X3 B0
  have s0:=(uH G).c0;have s1:=(uH G).c1;have g0:=(uH G).free 0;have g1:=(uH G).free 1
  rcases uH HA with⟨rfl,hu⟩|rfl
  ·have HU:=aa hu
   clear HA CA hu
   go_wp2_with fail
   have b2:=bN (uH B1) (show w.heap.size≤w.heap.size+1+1 by omega) (.bool u) (.slice z F.length D)
   refine(uH CB _ _ (hB.below b2) (by have:=uH HL;omega)).mono ?_
   rintro r w2 ⟨v2,rfl,⟨Y,Z,c2,L2,rfl,i2⟩,J⟩
   have a5:w.heap.size+4≤w2.heap.size:=by have:=J.size;simp at this;omega
   have y2:=((uH ap).put (.bool u) (.slice z F.length D)).all J
   have y3:=(((uH G).other (p:=⟨w.heap.size+1+1,0,none⟩) (by simp) (.bool u)).other (p:=⟨w.heap.size+1+1,1,none⟩) (by simp) (.slice z F.length D)).all J
   have b3:=b2.trans (J.mono b2.size)
   have j1:an (w.heap.size+4) w2 (.agg #[.bool u,.slice z F.length D]) ua:=((uH I1).put2 (p:=⟨w.heap.size+1+1,0,none⟩) (q:=⟨w.heap.size+1+1,1,none⟩) (by simp) (by simp) (.bool u) (.slice z F.length D)).below J
   have j2:an (w.heap.size+4) w2 (.agg #[.bool Y,.slice Z L2.length c2]) ub:=an.mono ⟨Y,Z,c2,L2,rfl,i2⟩ (by simp;omega)
   clear q0 q1 f0 f1 s0 s1 g0 g1 p0 p1 p2 a4 ap G I1 B1 J i2 CB
   have q0:=y2.c0;have q1:=y2.c1;have f0:=y2.free 0;have f1:=y2.free 1
   have s0:=y3.c0;have s1:=y3.c1;have g0:=y3.free 0;have g1:=y3.free 1
   have B3:=aa b3;have J1:=aa j1;have J2:=aa j2
   have EE:=aa (fun u0 u1 v0 v1=>FB y2 y3 (by omega) u0 u1 v0 v1)
   clear b2 b3 y2 y3 j1 j2
   rcases uH HB with⟨rfl,hv⟩|rfl
   ·have HV:=aa hv
    clear HB hv
    go_wp2
    go_region_with fail
    all_goals
     go_wp2
     obtain⟨V,X⟩:=uH EE (.bool u) (.slice z F.length D) (.bool Y) (.slice Z L2.length c2)
     have z0:=V.c0;have z1:=V.c1;have z2:=X.c0;have z3:=X.c1
     refine bodyPost_ret (v:=.tuple #[.agg #[.bool u,.slice z F.length D],.agg #[.bool Y,.slice Z L2.length c2],.int .i64 0]) (by simp[results,Tryz.results310,go_sem,z0,z1,z2,z3]) rfl ⟨⟨u,z,F.length,D,Y,Z,L2.length,c2,0,rfl,?_,?_⟩,?_⟩
     ·intro _ _
      rw[←uH HU,←uH HV]
      exact⟨rfl,((((((uH J1).put2 (by simp) (by simp) _ _).put2 (by simp) (by simp) _ _).put2 (by simp) (by simp) _ _).below ((Below.refl _ _).drew)).mono (Nat.zero_le _)),((((((uH J2).put2 (by simp) (by simp) _ _).put2 (by simp) (by simp) _ _).put2 (by simp) (by simp) _ _).below ((Below.refl _ _).drew)).mono (Nat.zero_le _))⟩
     ·intro h;exact absurd ⟨rfl,rfl⟩ h
     ·exact(bN (bN (bN (uH B3) (by omega) _ _) (by omega) _ _) (by omega) _ _).drew
   ·clear HB
    go_wp2
    go_region_with fail
    all_goals
     go_wp2
     obtain⟨V,X⟩:=uH EE (.bool u) (.slice z F.length D) (.bool Y) (.slice Z L2.length c2)
     have z0:=V.c0;have z1:=V.c1;have z2:=X.c0;have z3:=X.c1
     refine bodyPost_ret (v:=.tuple #[.agg #[.bool u,.slice z F.length D],.agg #[.bool Y,.slice Z L2.length c2],.int .i64 2]) (by simp[results,Tryz.results310,go_sem,z0,z1,z2,z3]) rfl ⟨⟨u,z,F.length,D,Y,Z,L2.length,c2,2,rfl,?_,fun _=>rfl⟩,?_⟩
     ·intro _ h;exact absurd h (by decide)
     ·exact(bN (bN (bN (uH B3) (by omega) _ _) (by omega) _ _) (by omega) _ _).drew
  ·clear HA HB CA CB
   go_wp2
   go_region_with fail
   all_goals
    go_wp2
    obtain⟨V,X⟩:=FC (uH ap) (uH G) (by omega) (.bool u) (.slice z F.length D) (.bool false) (.slice none 0 0)
    have z0:=V.c0;have z1:=V.c1;have z2:=X.c0;have z3:=X.c1
    refine bodyPost_ret (v:=.tuple #[.agg #[.bool u,.slice z F.length D],.agg #[.bool false,.slice none 0 0],.int .i64 2]) (by simp[results,Tryz.results310,go_sem,z0,z1,z2,z3]) rfl ⟨⟨u,z,F.length,D,false,none,0,0,2,rfl,?_,fun _=>rfl⟩,?_⟩
    ·intro h;exact absurd h (by decide)
    ·exact(bN (bN (bN (uH B1) (by omega) _ _) (by omega) _ _) (by omega) _ _).drew
def bF(sa x sb y:Int):Int:=if sa=0 then y else if sb=0 then x else min x y
def dK(sa x sb y:Int):Int:=up sa x (bF sa x sb y)+up sb y (bF sa x sb y)
def j6(sa x sb y:Int):Bool:=decide (eu sa x (bF sa x sb y)=0∧eu sb y (bF sa x sb y)=0∧(dK sa x sb y).natAbs<dt)
def rT(sa x sb y:Int):Int:=if j6 sa x sb y then cK (dK sa x sb y) (bF sa x sb y)else 2
def rU(sa x sb y:Int):Int:=if j6 sa x sb y then dM (dK sa x sb y) (bF sa x sb y)else 0
def rV(sa x sb y:Int):Int:=if j6 sa x sb y then dX (dK sa x sb y) (bF sa x sb y)else 0
def mi(w':World)(r:Ending)(er m e:Int):Prop:=∃v,r=.returned (.tuple #[v,.int .i64 er])∧aC w' v m e
theorem aE{n:Bool}{L:List Nat}(h:al n L=true):ad n L=0↔L.length=0:=by
 have d:=(au h).2.1
 constructor
 ·intro e
  have:ai L=0:=by rw[←aM n L,e];rfl
  rw[(aG L d).1 this];rfl
 ·intro e
  have:L= []:=List.length_eq_zero_iff.1 e
  rw[this,gG]
theorem nh{w:World}{l:Option Addr}{d:Nat}{n:Bool}{L:List Nat}(h:ag w l d L)(f:al n L=true):(ad n L).natAbs<dt:=by
 rw[aM];exact(dJ L h.2.1 (au f).2.1).2 (au f).1
theorem fr(x l:Int):up 0 x l=0:=by simp[up]
theorem mB(s x:Int):up s x x=s:=by simp[up]
theorem ib(s x l:Int)(d:(up s x l).natAbs<dt)(f:x-l≤16384):eu s x l=0:=by unfold eu;rw[if_pos ⟨d,f⟩]
theorem j7{s x l:Int}(h:eu s x l=0):(up s x l).natAbs<dt:=by
 unfold eu at h
 by_cases d:(up s x l).natAbs<dt∧x-l≤16384
 ·exact d.1
 ·rw[if_neg d]at h;exact absurd h (by decide)
theorem ni(d y:Int)(z:-16384≤y∧y≤16384)(h:d.natAbs<dt):rT 0 0 d y=cK d y∧rU 0 0 d y=dM d y∧rV 0 0 d y=dX d y:=by
 have f:bF 0 0 d y=y:=by simp[bF]
 have l:dK 0 0 d y=d:=by unfold dK;rw[f,fr,mB];omega
 have u:j6 0 0 d y=true:=by
  unfold j6
  rw[f,l]
  exact decide_eq_true ⟨ib _ _ _ (by rw[fr];exact mA) (by omega),ib _ _ _ (by rw[mB];exact h) (by omega),h⟩
 unfold rT rU rV
 rw[u,f,l]
 exact⟨rfl,rfl,rfl⟩
theorem nj(d x:Int)(D:-16384≤x∧x≤16384)(h:d.natAbs<dt)(u:d≠0):rT d x 0 0=cK d x∧rU d x 0 0=dM d x∧rV d x 0 0=dX d x:=by
 have f:bF d x 0 0=x:=by simp[bF,u]
 have l:dK d x 0 0=d:=by unfold dK;rw[f,fr,mB];omega
 have z:j6 d x 0 0=true:=by
  unfold j6
  rw[f,l]
  exact decide_eq_true ⟨ib _ _ _ (by rw[mB];exact h) (by omega),ib _ _ _ (by rw[fr];exact mA) (by omega),h⟩
 unfold rT rU rV
 rw[z,f,l]
 exact⟨rfl,rfl,rfl⟩
theorem ic(d x f y:Int)(h:d≠0)(l:f≠0):bF d x f y=min x y:=by unfold bF;rw[if_neg h,if_neg l]
theorem zh(d x f y l z:Int)(F:bF d x f y=l)(G:dK d x f y=z):
  (eu d x l=0∧eu f y l=0∧z.natAbs<dt∧rT d x f y=cK z l∧rU d x f y=dM z l∧rV d x f y=dX z l)∨
  (eu d x l=0∧eu f y l=0∧¬z.natAbs<dt∧rT d x f y=2∧rU d x f y=0∧rV d x f y=0)∨
  (¬(eu d x l=0∧eu f y l=0)∧rT d x f y=2∧rU d x f y=0∧rV d x f y=0):=by
 unfold rT rU rV j6
 rw[F,G]
 by_cases u:eu d x l=0∧eu f y l=0
 ·by_cases D:z.natAbs<dt
  ·left
   rw[decide_eq_true (show eu d x l=0∧eu f y l=0∧z.natAbs<dt from⟨u.1,u.2,D⟩)]
   exact⟨u.1,u.2,D,rfl,rfl,rfl⟩
  ·right;left
   rw[decide_eq_false (show¬(eu d x l=0∧eu f y l=0∧z.natAbs<dt)from fun h=>D h.2.2)]
   exact⟨u.1,u.2,D,rfl,rfl,rfl⟩
 ·right;right
  rw[decide_eq_false (show¬(eu d x l=0∧eu f y l=0∧z.natAbs<dt)from fun h=>u ⟨h.1,h.2.1⟩)]
  exact⟨u,rfl,rfl,rfl⟩
theorem qq(G H:Bool)(ao bo:Option Addr)(ca cb:Nat)(A B:List Nat)(x y:Int)(w:World)(hA:ag w ao ca A)(hB:ag w bo cb B)(ra:al G A=true)(rb:al H B=true)(bx:-16384≤x∧x≤16384)(ba:-16384≤y∧y≤16384)(zx:A.length=0→x=0)(zy:B.length=0→y=0)(hT:bT w):
  Calls Tryz.prog 305 #[.agg #[.bool G,.slice ao A.length ca,.int .i64 x],.agg #[.bool H,.slice bo B.length cb,.int .i64 y]] w fun r w'=>mi w' r (rT (ad G A) x (ad H B) y) (rU (ad G A) x (ad H B) y) (rV (ad G A) x (ad H B) y)∧Below w.heap.size w w':=by
 have ta:=nh hA ra
 have tb:=nh hB rb
 have bb:=aa (show A.length=0→rT (ad G A) x (ad H B) y=cK (ad H B) y∧rU (ad G A) x (ad H B) y=dM (ad H B) y∧rV (ad G A) x (ad H B) y=dX (ad H B) y from fun h=>by
  have:=(aE ra).2 h
  rw[this,zx h];exact ni _ _ ba tb)
 have be:=aa (show A.length≠0→B.length=0→rT (ad G A) x (ad H B) y=cK (ad G A) x∧rU (ad G A) x (ad H B) y=dM (ad G A) x∧rV (ad G A) x (ad H B) y=dX (ad G A) x from fun V h=>by
  have:=(aE rb).2 h
  rw[this,zy h];exact nj _ _ bx ta (fun e=>V ((aE ra).1 e)))
 have HL:=aa (show A.length≠0→B.length≠0→bF (ad G A) x (ad H B) y=min x y from fun V h=>ic _ _ _ _ (fun e=>V ((aE ra).1 e)) (fun e=>h ((aE rb).1 e)))
 obtain⟨l,hl⟩:∃l,bF (ad G A) x (ad H B) y=l:=⟨_,rfl⟩
 obtain⟨z,hz⟩:∃z,dK (ad G A) x (ad H B) y=z:=⟨_,rfl⟩
 have HW:=aa (zh _ _ _ _ l z hl hz)
 have a9:=aa (show z=up (ad G A) x l+up (ad H B) y l by rw[←hz,←hl];rfl)
 rw[hl]at HL
 have bq:=aa (fun w' h t=>ia H bo cb B y w' h rb (by omega) t)
 have bg:=aa (fun w' h t=>ia G ao ca A x w' h ra (by omega) t)
 have a7:=aa (fun w' h h' e=>wR G H ao bo ca cb A B x y l w' h h' ra rb bx ba e)
 have K:=aa (fun w' u v (h1:eu (ad G A) x l=0) (h2:eu (ad H B) y l=0) (Y:an 0 w' u (up (ad G A) x l)) (N:an 0 w' v (up (ad H B) y l))=>De Y N (j7 h1) (j7 h2))
 rw[←uH a9]at K
 have Z:=aa (fun(X:z.natAbs<dt) e' w' u B' (he:e'=l) (Y:an B' w' u z) (t:bT w')=>show Calls Tryz.prog 236 #[u,.int .i64 e'] w' fun r bn=>∃v,r=.returned (.tuple #[v,.int .i64 (cK z l)])∧aC bn v (dM z l) (dX z l)∧Below w'.heap.size w' bn by
  subst he
  refine iJ _ Y X ?_ t
  have:-16384≤e'∧e'≤16384:=by
   rw[←hl];unfold bF
   split
   ·omega
   ·split<;>omega
  omega)
 have ap:=aa (fun h:z.natAbs<dt=>And.intro (eU z h) (eW z h))
 have aI:=aa (fun h:¬z.natAbs<dt=>(show bd z=2 by unfold bd;rw[if_neg h]))
 clear hl hz ta tb ra rb zx zy a9
 obtain⟨b3,b4⟩:=bx
 obtain⟨b5,b6⟩:=ba
 generalize rT (ad G A) x (ad H B) y=er at*
 generalize rU (ad G A) x (ad H B) y=am at*
 generalize rV (ad G A) x (ad H B) y=ax at*
 generalize eu (ad G A) x l=ea at*
 generalize eu (ad H B) y l=eb at*
 generalize up (ad G A) x l=za at*
 generalize up (ad H B) y l=zb at*
 have bt:Below w.heap.size w (((w.alloc (.cells #[.bool G,.slice ao A.length ca,.int .i64 x] 41)).alloc (.cells #[.bool H,.slice bo B.length cb,.int .i64 y] 41)).alloc (.cells #[.bool false,.slice none 0 0,.int .i64 0] 41)):=
  (((Below.refl _ _).alloc (Nat.le_refl _) _).alloc (by simp) _).alloc (by simp;omega) _
 have Q:ay (((w.alloc (.cells #[.bool G,.slice ao A.length ca,.int .i64 x] 41)).alloc (.cells #[.bool H,.slice bo B.length cb,.int .i64 y] 41)).alloc (.cells #[.bool false,.slice none 0 0,.int .i64 0] 41)) w.heap.size (.bool G) (.slice ao A.length ca) (.int .i64 x):=((ay.new _ _ _ _).old _).old _
 have L:ay (((w.alloc (.cells #[.bool G,.slice ao A.length ca,.int .i64 x] 41)).alloc (.cells #[.bool H,.slice bo B.length cb,.int .i64 y] 41)).alloc (.cells #[.bool false,.slice none 0 0,.int .i64 0] 41)) (w.heap.size+1) (.bool H) (.slice bo B.length cb) (.int .i64 y):=by
  have:=(ay.new (w.alloc (.cells #[.bool G,.slice ao A.length ca,.int .i64 x] 41)) (.bool H) (.slice bo B.length cb) (.int .i64 y)).old (.cells #[.bool false,.slice none 0 0,.int .i64 0] 41)
  simpa using this
 have f:ay (((w.alloc (.cells #[.bool G,.slice ao A.length ca,.int .i64 x] 41)).alloc (.cells #[.bool H,.slice bo B.length cb,.int .i64 y] 41)).alloc (.cells #[.bool false,.slice none 0 0,.int .i64 0] 41)) (w.heap.size+1+1) (.bool false) (.slice none 0 0) (.int .i64 0):=by
  have:=ay.new ((w.alloc (.cells #[.bool G,.slice ao A.length ca,.int .i64 x] 41)).alloc (.cells #[.bool H,.slice bo B.length cb,.int .i64 y] 41)) (.bool false) (.slice none 0 0) (.int .i64 0)
  simpa using this
 have B0:=aa bt;have X0:=aa Q;have X1:=aa L;have X2:=aa f
 clear bt Q L f
 go_enter Tryz.func305,Tryz.ntmps305
 go_wp2_with fail
 refine(de G ao ca A.length _).mono ?_
 by_cases V:A.length=0
 ·rw[decide_eq_true V]
  rintro r w1 ⟨rfl,d⟩
  obtain⟨rfl,rfl,rfl⟩:=uH bb V
  have L:=(uH X1).all d;have f:=(uH X2).all d
  have U:=(uH B0).trans (d.mono (uH B0).size)
  have q0:=L.c0;have q1:=L.c1;have q2:=L.c2
  have D:=aa f;have F:=aa U
  clear V bb be HL HW bg a7 K Z ap aI d L f U X0 X1 X2 B0
  go_wp2_with fail
  refine(uH bq _ (hB.below (uH F)) (hT.all (uH F))).mono ?_
  rintro r w2 ⟨v,rfl,N,d⟩
  obtain⟨n3,a3,c3,L3,rfl,i3⟩:=N.num
  have f:=(uH D).all d
  have b2:=(uH F).trans (d.mono (uH F).size)
  have y0:=f.c0;have y1:=f.c1;have y2:=f.c2;have f0:=f.free 0;have f1:=f.free 1;have f2:=f.free 2
  have X3:=aa f;have B2:=aa b2;have IV:=aa N
  clear f b2 d N i3
  go_wp2
  refine bodyPost_ret (v:=.tuple #[.agg #[.bool n3,.slice a3 L3.length c3,.int .i64 (dX (ad H B) y)],.int .i64 (cK (ad H B) y)]) (by simp[results,Tryz.results305,go_sem,y0,y1,y2]) rfl ⟨⟨_,rfl,(uH IV).put3 (uH X3) _ _ _⟩,aK (uH B2) (by omega) _ _ _⟩
 ·rw[decide_eq_false V]
  rintro r w1 ⟨rfl,d⟩
  have Q:=(uH X0).all d;have L:=(uH X1).all d;have f:=(uH X2).all d
  have U:=(uH B0).trans (d.mono (uH B0).size)
  have q0:=L.c0;have q1:=L.c1;have q2:=L.c2
  have M:=aa Q;have O:=aa L;have D:=aa f;have F:=aa U
  have a0:=aa (uH be V);have bi:=aa (uH HL V)
  clear V bb be HL bq d Q L f U X0 X1 X2 B0
  go_wp2_with fail
  refine(de H bo cb B.length _).mono ?_
  by_cases V:B.length=0
  ·rw[decide_eq_true V]
   rintro r w2 ⟨rfl,d⟩
   obtain⟨rfl,rfl,rfl⟩:=uH a0 V
   have Q:=(uH M).all d;have f:=(uH D).all d
   have U:=(uH F).trans (d.mono (uH F).size)
   clear q0 q1 q2 M O D F
   have q0:=Q.c0;have q1:=Q.c1;have q2:=Q.c2
   have D:=aa f;have F:=aa U
   clear V a0 bi HW a7 K Z ap aI d Q f U
   go_wp2_with fail
   refine(uH bg _ (hA.below (uH F)) (hT.all (uH F))).mono ?_
   rintro r w4 ⟨v,rfl,N,d⟩
   obtain⟨n3,a3,c3,L3,rfl,i3⟩:=N.num
   have f:=(uH D).all d
   have b2:=(uH F).trans (d.mono (uH F).size)
   have y0:=f.c0;have y1:=f.c1;have y2:=f.c2;have f0:=f.free 0;have f1:=f.free 1;have f2:=f.free 2
   have X3:=aa f;have B2:=aa b2;have IV:=aa N
   clear f b2 d N i3
   go_wp2
   refine bodyPost_ret (v:=.tuple #[.agg #[.bool n3,.slice a3 L3.length c3,.int .i64 (dX (ad G A) x)],.int .i64 (cK (ad G A) x)]) (by simp[results,Tryz.results305,go_sem,y0,y1,y2]) rfl ⟨⟨_,rfl,(uH IV).put3 (uH X3) _ _ _⟩,aK (uH B2) (by omega) _ _ _⟩
  ·rw[decide_eq_false V]
   rintro r w2 ⟨rfl,d⟩
   have Q:=(uH M).all d;have L:=(uH O).all d;have f:=(uH D).all d
   have U:=(uH F).trans (d.mono (uH F).size)
   have bv:=uH bi V
   clear q0 q1 q2 M O D F
   have p0:=Q.c0;have p1:=Q.c1;have p2:=Q.c2
   have q0:=L.c0;have q1:=L.c1;have q2:=L.c2
   have M:=aa Q;have O:=aa L;have D:=aa f;have F:=aa U;have bw:=aa bv
   clear V a0 bi bg d Q L f U bv
   go_wp2_with fail
   refine(uH a7 _ (hA.below (uH F)) (hB.below (uH F)) (uH bw)).mono ?_
   rintro r w3 ⟨⟨n1,a1,l1,c1,n2,a2,l2,c2,ae,rfl,g1,g2⟩,d⟩
   have Q:=(uH M).all d;have L:=(uH O).all d;have f:=(uH D).all d
   have U:=(uH F).trans (d.mono (uH F).size)
   have G1:=aa g1;have G2:=aa g2
   clear p0 p1 p2 q0 q1 q2 M O D F a7 d g1 g2
   --the two boxes of what align answered
   have bA:Below w3.heap.size w3 ((w3.alloc (.cells #[.bool n1,.slice a1 l1 c1] 39)).alloc (.cells #[.bool n2,.slice a2 l2 c2] 39)):=((Below.refl _ _).alloc (Nat.le_refl _) _).alloc (by simp) _
   have M:=aa (Q.all bA);have O:=aa (L.all bA);have D:=aa (f.all bA);have F:=aa (U.trans (bA.mono U.size));have BA:=aa bA
   clear Q L f U bA
   rcases uH HW with⟨e1,e2,X,rfl,rfl,rfl⟩|⟨e1,e2,X,rfl,rfl,rfl⟩|⟨b0,rfl,rfl,rfl⟩
   ·obtain⟨rfl,Y,N⟩:=uH G1 e1 e2
    obtain⟨a6,bE⟩:=uH ap X
    have J:=aa (fun w' u v Y N=>uH K w' u v e1 e2 Y N)
    rw[a6,bE]at J
    have bz:=aa (uH Z X)
    have IU:=aa (Y.below (uH BA));have a5:=aa (N.below (uH BA))
    clear HW K Z ap aI G1 G2 e1 e2 X a6 bE Y N
    go_wp2_with fail
    refine(uH J _ _ _ (uH IU) (uH a5)).mono ?_
    rintro r w5 ⟨u,rfl,⟨n4,a4,c4,L4,rfl,i4⟩,d⟩
    have Q:=((uH M).all d).old (.cells #[.bool n4,.slice a4 L4.length c4] 39)
    have L:=((uH O).all d).old (.cells #[.bool n4,.slice a4 L4.length c4] 39)
    have f:=((uH D).all d).old (.cells #[.bool n4,.slice a4 L4.length c4] 39)
    have U:=((uH F).trans (d.mono (uH F).size)).alloc ((uH F).trans (d.mono (uH F).size)).size (.cells #[.bool n4,.slice a4 L4.length c4] 39)
    have iz:an 0 (w5.alloc (.cells #[.bool n4,.slice a4 L4.length c4] 39)) (.agg #[.bool n4,.slice a4 L4.length c4]) z:=an.mono (an.below ⟨n4,a4,c4,L4,rfl,i4⟩ ((Below.refl _ _).alloc (Nat.le_refl _) _)) (Nat.zero_le _)
    clear M O D F d i4 J IU a5 BA
    have p2:=Q.c2;have q2:=L.c2
    have D:=aa f;have F:=aa U;have IZ:=aa iz
    clear Q L f U iz
    rcases(show x<y∨x=y∨y<x by omega)with bm|bm|bm
    all_goals
     first|subst bm|skip
     go_wp2_with fail
     refine(uH bz _ _ _ _ (by have:=uH bw;omega) (uH IZ) (hT.all (uH F))).mono ?_
     rintro r w4 ⟨v,rfl,N,d⟩
     obtain⟨n3,a3,c3,L3,rfl,i3⟩:=N.num
     have f:=(uH D).all d
     have b2:=(uH F).trans (d.mono (uH F).size)
     have y0:=f.c0;have y1:=f.c1;have y2:=f.c2;have f0:=f.free 0;have f1:=f.free 1;have f2:=f.free 2
     have X3:=aa f;have B2:=aa b2;have IV:=aa N
     clear f b2 d N i3
     go_wp2
     refine bodyPost_ret (v:=.tuple #[.agg #[.bool n3,.slice a3 L3.length c3,.int .i64 (dX z l)],.int .i64 (cK z l)]) (by simp[results,Tryz.results305,go_sem,y0,y1,y2]) rfl ⟨⟨_,rfl,(uH IV).put3 (uH X3) _ _ _⟩,aK (uH B2) (by omega) _ _ _⟩
   ·obtain⟨rfl,Y,N⟩:=uH G1 e1 e2
    have a6:=uH aI X
    have J:=aa (fun w' u v Y N=>uH K w' u v e1 e2 Y N)
    rw[a6]at J
    have IU:=aa (Y.below (uH BA));have a5:=aa (N.below (uH BA))
    clear HW K Z ap aI G1 G2 e1 e2 X a6 Y N
    go_wp2_with fail
    refine(uH J _ _ _ (uH IU) (uH a5)).mono ?_
    rintro r w5 ⟨u,rfl,⟨n4,a4,c4,L4,rfl,i4⟩,d⟩
    have f:=((uH D).all d).old (.cells #[.bool n4,.slice a4 L4.length c4] 39)
    have U:=((uH F).trans (d.mono (uH F).size)).alloc ((uH F).trans (d.mono (uH F).size)).size (.cells #[.bool n4,.slice a4 L4.length c4] 39)
    have y0:=f.c0;have y1:=f.c1;have y2:=f.c2;have f0:=f.free 0;have f1:=f.free 1;have f2:=f.free 2
    have B2:=aa U
    clear M O D F d i4 J IU a5 BA f U
    go_wp2
    refine bodyPost_ret (v:=.tuple #[.agg #[.bool false,.slice none 0 0,.int .i64 0],.int .i64 (2)]) (by simp[results,Tryz.results305,go_sem,y0,y1,y2]) rfl ⟨⟨_,rfl,aC.zero _ _ _⟩,aK (uH B2) (by omega) _ _ _⟩
   ·have ha:=uH G2 b0
    subst ha
    have f:=uH D
    have y0:=f.c0;have y1:=f.c1;have y2:=f.c2;have f0:=f.free 0;have f1:=f.free 1;have f2:=f.free 2
    have B2:=F
    clear HW K Z ap aI G1 G2 b0 f M O D BA F
    go_wp2
    refine bodyPost_ret (v:=.tuple #[.agg #[.bool false,.slice none 0 0,.int .i64 0],.int .i64 (2)]) (by simp[results,Tryz.results305,go_sem,y0,y1,y2]) rfl ⟨⟨_,rfl,aC.zero _ _ _⟩,aK (uH B2) (by omega) _ _ _⟩
theorem bO{neg:Bool}{L:List Nat}{e:Int}(h:jS neg L e=true):al neg L=true∧L.length≤512∧-16384≤e∧e≤16384∧(L.length=0→e=0):=by
 unfold jS at h
 rw[Bool.and_eq_true]at h
 obtain⟨l,d⟩:=h
 refine⟨l,(au l).1,?_⟩
 by_cases f:L.length=0
 ·rw[if_pos f]at d
  have:=of_decide_eq_true d
  omega
 ·rw[if_neg f,Bool.and_eq_true]at d
  have:=of_decide_eq_true d.2
  omega
theorem ug(f l:Bool)(z D:Option Addr)(F G:Nat)(A B:List Nat)(x y:Int)(w:World)(hA:ag w z F A)(hB:ag w D G B)(K:jS f A x=true)(L:jS l B y=true)(hT:bT w):
  Calls Tryz.prog 295 #[.agg #[.bool f,.slice z A.length F,.int .i64 x],.agg #[.bool l,.slice D B.length G,.int .i64 y]] w fun r w'=>mi w' r (rT (ad f A) x (ad l B) y) (rU (ad f A) x (ad l B) y) (rV (ad f A) x (ad l B) y)∧Below w.heap.size w w':=by
 obtain⟨ra,la,X,Y,zx⟩:=bO K
 obtain⟨rb,lb,Z,ae,zy⟩:=bO L
 have U:=aa (fun w' h Q t=>iI f l z D F G A B x y w' h Q (by omega) (by omega) t)
 have he:oW f A x l B y=0:=by unfold oW;rw[K,L];rfl
 rw[he]at U
 have CA:=aa (fun w' h Q t=>qq f l z D F G A B x y w' h Q ra rb ⟨X,Y⟩ ⟨Z,ae⟩ zx zy t)
 generalize rT (ad f A) x (ad l B) y=er at*
 generalize rU (ad f A) x (ad l B) y=am at*
 generalize rV (ad f A) x (ad l B) y=ax at*
 clear he K L zx zy ra rb
 have N:Below w.heap.size w (((w.alloc (.cells #[.bool f,.slice z A.length F,.int .i64 x] 41)).alloc (.cells #[.bool l,.slice D B.length G,.int .i64 y] 41)).alloc (.cells #[.bool false,.slice none 0 0,.int .i64 0] 41)):=
  (((Below.refl _ _).alloc (Nat.le_refl _) _).alloc (by simp) _).alloc (by simp;omega) _
 have H:ay (((w.alloc (.cells #[.bool f,.slice z A.length F,.int .i64 x] 41)).alloc (.cells #[.bool l,.slice D B.length G,.int .i64 y] 41)).alloc (.cells #[.bool false,.slice none 0 0,.int .i64 0] 41)) w.heap.size (.bool f) (.slice z A.length F) (.int .i64 x):=((ay.new _ _ _ _).old _).old _
 have J:ay (((w.alloc (.cells #[.bool f,.slice z A.length F,.int .i64 x] 41)).alloc (.cells #[.bool l,.slice D B.length G,.int .i64 y] 41)).alloc (.cells #[.bool false,.slice none 0 0,.int .i64 0] 41)) (w.heap.size+1) (.bool l) (.slice D B.length G) (.int .i64 y):=by
  have:=(ay.new (w.alloc (.cells #[.bool f,.slice z A.length F,.int .i64 x] 41)) (.bool l) (.slice D B.length G) (.int .i64 y)).old (.cells #[.bool false,.slice none 0 0,.int .i64 0] 41)
  simpa using this
 have u:ay (((w.alloc (.cells #[.bool f,.slice z A.length F,.int .i64 x] 41)).alloc (.cells #[.bool l,.slice D B.length G,.int .i64 y] 41)).alloc (.cells #[.bool false,.slice none 0 0,.int .i64 0] 41)) (w.heap.size+1+1) (.bool false) (.slice none 0 0) (.int .i64 0):=by
  have:=ay.new ((w.alloc (.cells #[.bool f,.slice z A.length F,.int .i64 x] 41)).alloc (.cells #[.bool l,.slice D B.length G,.int .i64 y] 41)) (.bool false) (.slice none 0 0) (.int .i64 0)
  simpa using this
 have M:=aa N;have X0:=aa H;have X1:=aa J;have X2:=aa u
 clear N H J u
 go_enter Tryz.func295,Tryz.ntmps295
 go_wp2_with fail
 refine(uH U _ (hA.below (uH M)) (hB.below (uH M)) (hT.all (uH M))).mono ?_
 rintro r w1 ⟨rfl,d⟩
 have H:=(uH X0).all d;have J:=(uH X1).all d;have u:=(uH X2).all d
 have b1:=(uH M).trans (d.mono (uH M).size)
 have p0:=H.c0;have p1:=H.c1;have p2:=H.c2
 have q0:=J.c0;have q1:=J.c1;have q2:=J.c2
 have ap:=aa H;have aI:=aa J;have V:=aa u;have O:=aa b1
 clear d H J u b1 X0 X1 X2 M U
 go_wp2_with fail
 refine(uH CA _ (hA.below (uH O)) (hB.below (uH O)) (hT.all (uH O))).mono ?_
 rintro r w4 ⟨⟨v,rfl,iv⟩,d⟩
 obtain⟨n3,a3,c3,L3,rfl,i3⟩:=iv.num
 have u:=(uH V).all d
 have b2:=(uH O).trans (d.mono (uH O).size)
 have y0:=u.c0;have y1:=u.c1;have y2:=u.c2;have f0:=u.free 0;have f1:=u.free 1;have f2:=u.free 2
 have X3:=aa u;have B2:=aa b2;have IV:=aa iv
 clear u b2 d iv i3
 go_wp2
 refine bodyPost_ret (v:=.tuple #[.agg #[.bool n3,.slice a3 L3.length c3,.int .i64 (ax)],.int .i64 (er)]) (by simp[results,Tryz.results295,go_sem,y0,y1,y2]) rfl ⟨⟨_,rfl,(uH IV).put3 (uH X3) _ _ _⟩,aK (uH B2) (by omega) _ _ _⟩
theorem uh(f l:Bool)(F G:Option Addr)(H J:Nat)(A B:List Nat)(x y:Int)(w:World)(hA:ag w F H A)(hB:ag w G J B)(O:jS f A x=true)(Q:jS l B y=true)(hz:(ad f A*ad l B).natAbs<dt)(hT:bT w):
  Calls Tryz.prog 278 #[.agg #[.bool f,.slice F A.length H,.int .i64 x],.agg #[.bool l,.slice G B.length J,.int .i64 y]] w fun r w'=>mi w' r (cK (ad f A*ad l B) (x+y)) (dM (ad f A*ad l B) (x+y)) (dX (ad f A*ad l B) (x+y))∧Below w.heap.size w w':=by
 obtain⟨ra,la,a0,a1,zx⟩:=bO O
 obtain⟨rb,lb,a2,a5,zy⟩:=bO Q
 have CC:=aa (fun w' h h' t=>iI f l F G H J A B x y w' h h' (by omega) (by omega) t)
 have he:oW f A x l B y=0:=by unfold oW;rw[O,Q];rfl
 rw[he]at CC
 have CM:=aa (fun w' h h'=>Dd f l F G H J A B w' h h' (by omega) (by omega))
 rw[ra,rb,Bool.and_self,fO,fU,eU _ hz,eW _ hz]at CM
 have CK:=aa (fun w' u B' (iu:an B' w' u (ad f A*ad l B)) t=>iJ (x+y) iu hz (by omega) t)
 generalize cK (ad f A*ad l B) (x+y)=er at*
 generalize dM (ad f A*ad l B) (x+y)=am at*
 generalize dX (ad f A*ad l B) (x+y)=ax at*
 clear he O Q zx zy ra rb hz
 generalize ad f A*ad l B=z at*
 have ae:Below w.heap.size w (((w.alloc (.cells #[.bool f,.slice F A.length H,.int .i64 x] 41)).alloc (.cells #[.bool l,.slice G B.length J,.int .i64 y] 41)).alloc (.cells #[.bool false,.slice none 0 0,.int .i64 0] 41)):=
  (((Below.refl _ _).alloc (Nat.le_refl _) _).alloc (by simp) _).alloc (by simp;omega) _
 have K:ay (((w.alloc (.cells #[.bool f,.slice F A.length H,.int .i64 x] 41)).alloc (.cells #[.bool l,.slice G B.length J,.int .i64 y] 41)).alloc (.cells #[.bool false,.slice none 0 0,.int .i64 0] 41)) w.heap.size (.bool f) (.slice F A.length H) (.int .i64 x):=((ay.new _ _ _ _).old _).old _
 have L:ay (((w.alloc (.cells #[.bool f,.slice F A.length H,.int .i64 x] 41)).alloc (.cells #[.bool l,.slice G B.length J,.int .i64 y] 41)).alloc (.cells #[.bool false,.slice none 0 0,.int .i64 0] 41)) (w.heap.size+1) (.bool l) (.slice G B.length J) (.int .i64 y):=by
  have:=(ay.new (w.alloc (.cells #[.bool f,.slice F A.length H,.int .i64 x] 41)) (.bool l) (.slice G B.length J) (.int .i64 y)).old (.cells #[.bool false,.slice none 0 0,.int .i64 0] 41)
  simpa using this
 have D:ay (((w.alloc (.cells #[.bool f,.slice F A.length H,.int .i64 x] 41)).alloc (.cells #[.bool l,.slice G B.length J,.int .i64 y] 41)).alloc (.cells #[.bool false,.slice none 0 0,.int .i64 0] 41)) (w.heap.size+1+1) (.bool false) (.slice none 0 0) (.int .i64 0):=by
  have:=ay.new ((w.alloc (.cells #[.bool f,.slice F A.length H,.int .i64 x] 41)).alloc (.cells #[.bool l,.slice G B.length J,.int .i64 y] 41)) (.bool false) (.slice none 0 0) (.int .i64 0)
  simpa using this
 have Z:=aa ae;have X0:=aa K;have X1:=aa L;have X2:=aa D
 clear ae K L D
 go_enter Tryz.func278,Tryz.ntmps278
 go_wp2_with fail
 refine(uH CC _ (hA.below (uH Z)) (hB.below (uH Z)) (hT.all (uH Z))).mono ?_
 rintro r w1 ⟨rfl,d⟩
 have K:=(uH X0).all d;have L:=(uH X1).all d;have D:=(uH X2).all d
 have b1:=(uH Z).trans (d.mono (uH Z).size)
 have p0:=K.c0;have p1:=K.c1;have p2:=K.c2
 have q0:=L.c0;have q1:=L.c1;have q2:=L.c2
 have ap:=aa K;have aI:=aa L;have N:=aa D;have M:=aa b1
 clear d K L D b1 X0 X1 X2 Z CC
 go_wp2_with fail
 refine(uH CM _ (hA.below (uH M)) (hB.below (uH M))).mono ?_
 rintro r w5 ⟨u,rfl,⟨U,V,X,Y,rfl,i4⟩,d⟩
 have K:=((uH ap).all d).old (.cells #[.bool U,.slice V Y.length X] 39)
 have L:=((uH aI).all d).old (.cells #[.bool U,.slice V Y.length X] 39)
 have D:=((uH N).all d).old (.cells #[.bool U,.slice V Y.length X] 39)
 have b1:=((uH M).trans (d.mono (uH M).size)).alloc ((uH M).trans (d.mono (uH M).size)).size (.cells #[.bool U,.slice V Y.length X] 39)
 have iz:an 0 (w5.alloc (.cells #[.bool U,.slice V Y.length X] 39)) (.agg #[.bool U,.slice V Y.length X]) z:=an.mono (an.below ⟨U,V,X,Y,rfl,i4⟩ ((Below.refl _ _).alloc (Nat.le_refl _) _)) (Nat.zero_le _)
 clear ap aI N M d i4 CM p0 p1 p2 q0 q1 q2
 have p2:=K.c2;have q2:=L.c2
 have N:=aa D;have M:=aa b1;have IZ:=aa iz
 clear K L D b1 iz
 go_wp2_with fail
 refine(uH CK _ _ _ (uH IZ) (hT.all (uH M))).mono ?_
 rintro r w4 ⟨v,rfl,iv,d⟩
 obtain⟨n3,a3,c3,L3,rfl,i3⟩:=iv.num
 have D:=(uH N).all d
 have b2:=(uH M).trans (d.mono (uH M).size)
 have y0:=D.c0;have y1:=D.c1;have y2:=D.c2;have f0:=D.free 0;have f1:=D.free 1;have f2:=D.free 2
 have X3:=aa D;have B2:=aa b2;have IV:=aa iv
 clear D b2 d iv i3
 go_wp2
 refine bodyPost_ret (v:=.tuple #[.agg #[.bool n3,.slice a3 L3.length c3,.int .i64 (ax)],.int .i64 (er)]) (by simp[results,Tryz.results278,go_sem,y0,y1,y2]) rfl ⟨⟨_,rfl,(uH IV).put3 (uH X3) _ _ _⟩,aK (uH B2) (by omega) _ _ _⟩
theorem qr(f:Bool)(u:Option Addr)(z:Nat)(A:List Nat)(x n:Int)(w:World)(N:ag w u z A)(J:jS f A x=true)(O:-32768≤n∧n≤32768)(Q:bT w):
  Calls Tryz.prog 250 #[.agg #[.bool f,.slice u A.length z,.int .i64 x],.int .i64 n] w fun r w'=>mi w' r (cK (ad f A) (x+n)) (dM (ad f A) (x+n)) (dX (ad f A) (x+n))∧Below w.heap.size w w':=by
 obtain⟨ra,la,ae,ap,zx⟩:=bO J
 have K:=aa (fun w' h t=>h9 f u z A x w' h (by omega) t)
 have U:nf f A x=0:=by unfold nf;rw[J];rfl
 rw[U]at K
 have V:=aa (fun w'=>dc n 32768 w' (by decide) (by decide))
 rw[decide_eq_true O]at V
 have CK:=aa (fun w' h t=>ia f u z A (x+n) w' h ra (by omega) t)
 generalize cK (ad f A) (x+n)=er at*
 generalize dM (ad f A) (x+n)=am at*
 generalize dX (ad f A) (x+n)=ax at*
 obtain⟨aI,a0⟩:=O
 clear U J zx ra
 have F:Below w.heap.size w ((w.alloc (.cells #[.bool f,.slice u A.length z,.int .i64 x] 41)).alloc (.cells #[.bool false,.slice none 0 0,.int .i64 0] 41)):=((Below.refl _ _).alloc (Nat.le_refl _) _).alloc (by simp) _
 have D:ay ((w.alloc (.cells #[.bool f,.slice u A.length z,.int .i64 x] 41)).alloc (.cells #[.bool false,.slice none 0 0,.int .i64 0] 41)) w.heap.size (.bool f) (.slice u A.length z) (.int .i64 x):=(ay.new _ _ _ _).old _
 have l:ay ((w.alloc (.cells #[.bool f,.slice u A.length z,.int .i64 x] 41)).alloc (.cells #[.bool false,.slice none 0 0,.int .i64 0] 41)) (w.heap.size+1) (.bool false) (.slice none 0 0) (.int .i64 0):=by
  have:=ay.new (w.alloc (.cells #[.bool f,.slice u A.length z,.int .i64 x] 41)) (.bool false) (.slice none 0 0) (.int .i64 0)
  simpa using this
 have G:=aa F;have X:=aa D;have Y:=aa l
 clear F D l
 go_enter Tryz.func250,Tryz.ntmps250
 go_wp2_with fail
 refine(uH K _ (N.below (uH G)) (Q.all (uH G))).mono ?_
 rintro r w1 ⟨rfl,d⟩
 have D:=(uH X).all d;have l:=(uH Y).all d
 have Z:=(uH G).trans (d.mono (uH G).size)
 have p0:=D.c0;have p1:=D.c1;have p2:=D.c2
 have L:=aa l;have H:=aa Z
 clear d D l Z X Y G K
 go_wp2_with fail
 refine(uH V _).mono ?_
 rintro r w2 ⟨rfl,rfl⟩
 go_wp2_with fail
 refine(uH CK _ (N.below (uH H)) (Q.all (uH H))).mono ?_
 rintro r w4 ⟨v,rfl,M,d⟩
 obtain⟨n3,a3,c3,L3,rfl,i3⟩:=M.num
 have l:=(uH L).all d
 have b2:=(uH H).trans (d.mono (uH H).size)
 have y0:=l.c0;have y1:=l.c1;have y2:=l.c2;have f0:=l.free 0;have f1:=l.free 1;have f2:=l.free 2
 have X3:=aa l;have B2:=aa b2;have IV:=aa M
 clear l b2 d M i3
 go_wp2
 refine bodyPost_ret (v:=.tuple #[.agg #[.bool n3,.slice a3 L3.length c3,.int .i64 (ax)],.int .i64 (er)]) (by simp[results,Tryz.results250,go_sem,y0,y1,y2]) rfl ⟨⟨_,rfl,(uH IV).put3 (uH X3) _ _ _⟩,aK (uH B2) (by omega) _ _ _⟩
theorem ui(L:List Nat)(f:aX L)(k:Nat)(h:L.length≤k):ai L<2^(32*k):=by
 have d:=dZ L f
 rw[show(4294967296:Nat)=2^32 by decide,←Nat.pow_mul]at d
 exact Nat.lt_of_lt_of_le d (Nat.pow_le_pow_right (by decide) (by omega))
theorem uj:dt=2^(32*kN):=by
 unfold dt
 rw[show(4294967296:Nat)=2^32 by decide,←Nat.pow_mul]
theorem qu{v k:Nat}(h:v<2^k)(d:k≤16384):v<dt:=by
 rw[uj]
 exact Nat.lt_of_lt_of_le h (Nat.pow_le_pow_right (by decide) d)
end Go.Proofs.YtdhmglmccafbnaaGreatDoor
